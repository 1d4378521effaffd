/- Lemmas. -/
import Derived.Test.YtoilcpdhhlcidaaGreatDoorDFrs
import Derived.Laws.BytesArg
import Derived.Laws.NewBlocks
namespace Go.Proofs.YtoilcpdhhlcidaaGreatDoor
open Go.RowKit
def str (l:List UInt8):ByteArray:=⟨l.toArray⟩
theorem zbt (l:List UInt8):(str l).toList=l:=by
 rw[ByteArray.toList_eq]
 rfl
theorem zb7 {w:World} {ao:Option Addr} {c:Nat} {l:List UInt8} (h:Bts w ao c l):(convert 53 9 (.slice ao l.length c)).run Tryz.prog w = .ok (.string (str l)) w:=by
 cases ao with
 | none =>
   have:=List.eq_nil_of_length_eq_zero (h.zip rfl).1
   subst this
   exact run_convert_bytes_nil w 53 5 Tryz.underlying53 Tryz.underlying5 _ _ 9 Tryz.underlying9
 | some ad =>
   by_cases hl:l=[]
   ·subst hl
    rw[show ([]:List UInt8).length=0 from rfl,run_convert_bytes_string w 53 9 5 (some ad) 0 c Tryz.underlying53 Tryz.underlying5 Tryz.underlying9]
    rw[run_bytesToString w ad 0 c [] (by simp[loadCells,loadCellsFrom])]
    rfl
   have hs:=h.shape ad rfl (List.length_pos_iff.2 hl)
   have hc:=h.cell ad rfl
   obtain ⟨b,o,s⟩:=ad
   simp only at hs hc
   subst hs
   have:=run_convert_bytes_arg (P:=Tryz.prog) w 53 5 Tryz.underlying53 Tryz.underlying5 b o l.length c (l.map fun x=>(x.toNat:Int)) (by simp) (fun i hi=>by
    rw[hc i hi]
    simp[List.getD,hi]) 9 Tryz.underlying9
   have e:strOfNums (l.map fun x=>(x.toNat:Int))=str l:=by
    apply ByteArray.ext
    apply Array.toList_inj.1
    rw[strOfNums_data,List.map_map]
    show _=l
    conv=>rhs;rw[← List.map_id l]
    apply List.map_congr_left
    intro x _
    simp
   rw[this,e]
theorem zdx (a b:List UInt8):str a++str b=str (a++b):=by
 apply ByteArray.ext
 apply Array.toList_inj.1
 simp[str]
theorem zaq (l:List UInt8):(str l).size=l.length:=by simp[str,ByteArray.size]
theorem zms (w:World) (y:Nat):Bts (w.alloc (.cells #[.int .u8 ((y:Int) % 256)] 5)) (some ⟨w.heap.size,0,none⟩) 1 [UInt8.ofNat y]:=by
 refine ⟨(fun e=>by cases e),Nat.le_refl _,by unfold maxLen;decide,(fun ad e _=>by cases e;rfl),(fun ad e i hi => ?_)⟩
 cases e
 have hh:=heap_alloc_new w (.cells #[.int .u8 ((y:Int) % 256)] 5)
 match i,hi with
 | 0,_ =>
   simp only[World.cell?,hh,List.getElem_cons_zero,UInt8.toNat_ofNat']
   rfl
end Go.Proofs.YtoilcpdhhlcidaaGreatDoor
