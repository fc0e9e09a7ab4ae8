import Derived.Test.YtceigllifjgalaaGreatDoorRows
import Derived.Test.YtceigllifjgalaaGreatDoorPPkc
import Derived.Lib.LaidTab
import Derived.Deep.Strs
import Derived.Test.YtceigllifjgalaaGreatDoorKc
namespace Go.Proofs.YtceigllifjgalaaGreatDoor.Pkt
open Go Go.RowKit
set_option linter.unusedSimpArgs false
set_option linter.unusedVariables false
def txt (s:ByteArray):Bool:=((chk s).2:Int)==0
set_option maxHeartbeats 400000
def By (w:World) (s:Sl) (z:Nat→Int):Prop :=
 s.n≤s.c∧(∀ i,0≤z i∧z i≤255)∧(s.n=0∨∃ b off,s.a=some ⟨b,off,none⟩∧∀ i,i<s.n→w.cell? ⟨b,off+i,none⟩=some (.int .u8 (z i)))
def Is (w:World) (s:Sl) (z:Nat→Int):Prop :=
 s.n≤s.c∧(s.n=0∨∃ b off,s.a=some ⟨b,off,none⟩∧∀ i,i<s.n→w.cell? ⟨b,off+i,none⟩=some (.int .i64 (z i)))
def Ss (w:World) (s:Sl) (z:Nat→ByteArray):Prop :=
 s.n≤s.c∧(s.n=0∨∃ b off,s.a=some ⟨b,off,none⟩∧∀ i,i<s.n→w.cell? ⟨b,off+i,none⟩=some (.string (z i)))
def As (w:World) (s:Sl) (f:Nat→ByteArray) (q:Nat→Int):Prop :=
 s.n≤s.c∧(s.n=0∨∃ b off,s.a=some ⟨b,off,none⟩∧∀ i,i<s.n→(w.cell? ⟨b,off+i*2,none⟩=some (.string (f i))∧w.cell? ⟨b,off+i*2+1,none⟩=some (.int .i64 (q i))))
structure In (w:World) (p:Pk) (c:Cn):Prop where
 wP:By w p.wP c.wz
 pass:By w p.pass c.pz
 mP:By w p.mP c.mz
 asks:As w p.asks c.af c.aq
 codes:Is w p.codes c.cs
 filters:Ss w p.filters c.fs
theorem By.below {w w':World} {s:Sl} {z:Nat→Int} (h:By w s z) (hb:Below w.heap.size w w'):By w' s z:=by
 obtain ⟨h1,h2,h3 | ⟨b,off,e,hc⟩⟩:=h
 · exact ⟨h1,h2,.inl h3⟩
 · exact ⟨h1,h2,.inr ⟨b,off,e,fun i hi=>cell_later hb (hc i hi)⟩⟩
theorem Is.below {w w':World} {s:Sl} {z:Nat→Int} (h:Is w s z) (hb:Below w.heap.size w w'):Is w' s z:=by
 obtain ⟨h1,h3 | ⟨b,off,e,hc⟩⟩:=h
 · exact ⟨h1,.inl h3⟩
 · exact ⟨h1,.inr ⟨b,off,e,fun i hi=>cell_later hb (hc i hi)⟩⟩
theorem Ss.below {w w':World} {s:Sl} {z:Nat→ByteArray} (h:Ss w s z) (hb:Below w.heap.size w w'):Ss w' s z:=by
 obtain ⟨h1,h3 | ⟨b,off,e,hc⟩⟩:=h
 · exact ⟨h1,.inl h3⟩
 · exact ⟨h1,.inr ⟨b,off,e,fun i hi=>cell_later hb (hc i hi)⟩⟩
theorem As.below {w w':World} {s:Sl} {f:Nat→ByteArray} {q:Nat→Int} (h:As w s f q) (hb:Below w.heap.size w w'):As w' s f q:=by
 obtain ⟨h1,h3 | ⟨b,off,e,hc⟩⟩:=h
 · exact ⟨h1,.inl h3⟩
 · exact ⟨h1,.inr ⟨b,off,e,fun i hi=>⟨cell_later hb (hc i hi).1,cell_later hb (hc i hi).2⟩⟩⟩
theorem In.below {w w':World} {p:Pk} {c:Cn} (h:In w p c) (hb:Below w.heap.size w w'):In w' p c :=
 ⟨h.wP.below hb,h.pass.below hb,h.mP.below hb,h.asks.below hb,h.codes.below hb,h.filters.below hb⟩
theorem zae (b off j:Nat):(⟨b,off,none⟩:Addr).add j=⟨b,off+j,none⟩:=by
 unfold Addr.add
 split <;> simp_all
def strZ (z:Nat→Int) (n:Nat):ByteArray:=strOfNums ((List.range n).map z)
theorem zbv (z:Nat→Int) (n:Nat):(strZ z n).size=n:=by simp [strZ,strOfNums,ByteArray.size]
theorem zbT (s:Sl) (z:Nat→Int) (w:World) (h:By w s z):(convert 22 9 (.slice s.a s.n s.c)).run Tryz.prog w = .ok (.string (strZ z s.n)) w:=by
 obtain ⟨ao,len,cap⟩:=s
 obtain ⟨_,_,h3⟩:=h
 cases ao with
 | none =>
  rcases h3 with h3 | ⟨b,off,e,_⟩
  ·
   simp only at h3
   subst h3
   rw [run_convert_bytes_nil w 22 5 Tryz.underlying22 Tryz.underlying5 _ _ 9 Tryz.underlying9]
   rfl
  · cases e
 | some ad =>
  rw [run_convert_bytes_string w 22 9 5 _ len cap Tryz.underlying22 Tryz.underlying5 Tryz.underlying9]
  have hc:∀ i,i<len→w.cell? (ad.add i)=some (.int .u8 (z i)):=by
   intro i hi
   rcases h3 with h3 | ⟨b,off,e,hc⟩
   · simp only at h3;omega
   · simp only [Option.some.injEq] at e
     subst e
     rw [zae];exact hc i hi
  have hl:(loadCells ad len).run Tryz.prog w = .ok (((List.range len).map z).map (Value.int .u8)).toArray w:=by
   have:=run_loadCells_list (P:=Tryz.prog) w ad ((List.range len).map fun i=>.int .u8 (z i)) (fun j v hj=>by
    rw [List.getElem?_map] at hj
    by_cases h1:j<len
    · rw [List.getElem?_range h1] at hj
      simp at hj
      subst hj
      exact hc j h1
    · rw [List.getElem?_eq_none (by simpa using h1)] at hj
      simp at hj)
   simpa [Function.comp_def] using this
  rw [run_bytesToString w ad len cap _ hl,foldl_push_bytes]
  simp [strZ,strOfNums,ByteArray.empty,ByteArray.emptyWithCapacity]
  rfl
theorem zbM (s s':Sl) (z z':Nat→Int) (w:World) (h:By w s z) (h':By w s' z') :
    Calls Tryz.prog 36 #[s.v,s'.v] w fun e w'=>e = .returned (.bool ((strZ z s.n).toList==(strZ z' s'.n).toList))∧w'=w:=by
  have c1:=zbT s z w h
  have c2:=zbT s' z' w h'
  clear h h'
  simp only [Sl.v]
  go_enter Tryz.func36,Tryz.ntmps36
  go_wp2
  go_ret
  exact ⟨rfl,rfl⟩
end Go.Proofs.YtceigllifjgalaaGreatDoor.Pkt
