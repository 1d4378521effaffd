/- Lemmas. -/
import Derived.Test.YthhnfloohbdaiaaGreatDoorGOneM
import Derived.Lib.SlBytesConst
namespace Go.Proofs.YthhnfloohbdaiaaGreatDoor
open Go.RowKit
theorem zzf (w:World) (a b:List UInt8) (ha:a.length=32) (hb:b.length=32):(binOp .eql 33 (.agg (a.map bv).toArray) (.agg (b.map bv).toArray)).run Tryz.prog w = .ok (.bool (a == b)) w:=by
 have h:(Op.equalIn 10000 33 (.agg (a.map bv).toArray) (.agg (b.map bv).toArray)).run Tryz.prog w = .ok (a == b) w:=run_equalIn_bytes w 9998 33 5 32 Tryz.underlying33 Tryz.underlying5 zbf a b ha hb
 rw[run_eql_struct,h]
 simp[Result.andThen]
theorem ztv (x:List UInt8) (hx:x.length=32):Tryz.prog.built 70 [(0,.agg (x.map bv).toArray),(2,.int .u64 1)]=some (chC ⟨x,[],1,[],[]⟩ none 0).toArray:=by
 obtain ⟨a0,a1,a2,a3,a4,a5,a6,a7,a8,a9,a10,a11,a12,a13,a14,a15,a16,a17,a18,a19,a20,a21,a22,a23,a24,a25,a26,a27,a28,a29,a30,a31,rfl⟩:=zew x hx
 kernel_rfl
theorem zzq (V:World):(Instr.buildSlice 37 1 #[(0,.int .u8 97)]).run Tryz.prog V = .ok (.slice (some ⟨V.heap.size,0,none⟩) 1 1) (V.alloc (.cells #[.int .u8 97] 5)):=by kernel_rfl
set_option maxRecDepth 100000 in
set_option maxHeartbeats 8000000 in
theorem zon (w:World) (hT:Tabs w):Calls Tryz.prog 20 #[] w fun e w'=>e = .returned (.bool true)∧w.grownBy w' none:=by
 obtain ⟨Z,hZ,hzv⟩:=zdo
 have hzo:=zel
 have cn:=zob w
 have hbo:=zit
 obtain ⟨HZ,HT⟩:=zh2 hZ hT
 clear hZ hT
 go_enter Tryz.func20,Tryz.ntmps20
 go_wp2_with fail
 refine cn.mono ?_
 rintro e w1 ⟨sb,mb,rfl,hS1,g1⟩
 obtain ⟨W0,hW0⟩:∃ W,W=w1.alloc (.cells #[.int .u8 97] 5):=⟨_,rfl⟩
 obtain ⟨W2,hW2⟩:∃ W,W=w1.alloc (.cells #[.int .u8 97] 5 (1,2)):=⟨_,rfl⟩
 have g2:w1.grownBy W2 none:=by rw[hW2];exact zah (zab _ _) _
 have hh2:W2.heap[w1.heap.size]? = some (.cells #[.int .u8 97] 5 (1,2)):=by rw[hW2];exact heap_alloc_new w1 _
 have hcv:(convert 37 37 (.slice (some ⟨w1.heap.size,0,none⟩) 1 1)).run Tryz.prog W0 = .ok (.slice (some ⟨w1.heap.size,0,none⟩) 1 1) W2:=by
  rw[hW0,hW2];exact Lib.run_convert_bytes_const (P:=Tryz.prog) w1 37 5 #[.int .u8 97] 1 1 Tryz.underlying37 Tryz.underlying5
 have hD2:Dat W2 (some ⟨w1.heap.size,0,none⟩) 1 [97]:=⟨⟨(fun e=>by cases e),Nat.le_refl _,by unfold maxLen;decide,(fun ad e _=>by cases e;rfl),fun ad e i hi=>by
  cases e
  have:i=0:=by simpa using hi
  subst this
  simp[World.cell?,hh2]⟩,fun ad e=>by cases e;exact ⟨_,_,hh2⟩⟩
 have G2:=tn g1 g2
 have cp:Calls Tryz.prog 32 #[.pointer (some ⟨sb,0,none⟩),.agg #[.int .i64 1,.slice (some ⟨w1.heap.size,0,none⟩) 1 1]] W2 fun e w'=>e = .returned (.tuple #[keyV oneI,.int .i64 0])∧SetAt w w' sb mb zqi∧W2.grownBy w' (some mb) :=
  zm2 w W2 sb mb [] (hS1.none g2) 1 (some ⟨w1.heap.size,0,none⟩) 1 [97] hD2 zv7 (by decide) ((uh HT).kept0 G2)
 have hbs:(Instr.buildSlice 37 1 #[(0,.int .u8 97)]).run Tryz.prog w1 = .ok (.slice (some ⟨w1.heap.size,0,none⟩) 1 1) W0:=by rw[hW0];exact zzq w1
 obtain ⟨IB,hIB⟩:∃ l,l=oneI.map bv:=⟨_,rfl⟩
 have hIl:IB.length=32:=by rw[hIB];simp[zgj]
 have hIo:IB.toArray.all (·.oneCell')=true:=by rw[hIB];exact all_oneCell_toArray (za6 _)
 have hiI:(Tryz.prog.info? 33).map (·.size)=some IB.length:=by rw[hIl];exact zat
 have hiI2:(Tryz.prog.info? 33).map (·.size)=some IB.toArray.size:=by simpa using hiI
 have hZI:Z.toList.toArray.size=IB.toArray.size:=by have:=uh HZ;simp[this,hIl]
 rw[show keyV oneI = .agg IB.toArray by rw[hIB];rfl] at cp
 have hbch:=ztv oneI zgj
 rw[← hIB] at hbch
 obtain ⟨HBS,HG2,HIO,HII,HII2,HZI⟩:=zh6 hbs G2 hIo hiI hiI2 hZI
 obtain ⟨HBCH,HIB⟩:=zh2 hbch hIB
 clear cn hS1 g1 hW2 hW0 hh2 g2 hD2 G2 hbs hIl hIo hiI hiI2 hZI hbch hIB
 go_wp2_with (refine zaq rfl 37 _ rfl (.int .u8 97) _ rfl (uh HBS) ?_)
 refine cp.mono ?_
 rintro e w3 ⟨rfl,hS3,g3⟩
 have G3:w.grownBy w3 none:=zae (uh HG2) g3 (fun x e=>Or.inl (by cases e;exact hS3.nm))
 obtain ⟨W4,hW4,hB4,g4⟩:=zbl w3 33 Z IB
 have hBZ:Blk (w3.alloc (.cells Z 33)) w3.heap.size 33 Z.toList:=by simpa using Blk.new w3 33 Z.toList
 have hr4:=zal hB4
 obtain ⟨CC,hCC⟩:∃ l,l=(chC oneC none 0).toArray:=⟨_,rfl⟩
 have cc:=zik W4 oneC none 0 (by rw[zi4];exact Ids.nil W4) zgj (by decide) (by decide) (by rw[zi4];decide)
 rw[← hCC,zoh] at cc
 have G4:=tn G3 g4
 have hS4:=hS3.none g4
 obtain ⟨HW4,HBZ,HG4,HS4⟩:=zh4 hW4 hBZ G4 hS4
 have HBCH2:Hid (Tryz.prog.built 70 [(0,.agg IB.toArray),(2,.int .u64 1)]=some CC):=by rw[hCC];exact uh HBCH
 clear cp hS3 g3 G3 hW4 hB4 g4 hBZ G4 hS4 hCC HBCH
 go_wp2_with (first
  | (have hBB:=uh HBZ;refine wpList_store_row rfl 33 _ _ rfl w3.heap.size IB.toArray rfl rfl _ _ hBB (uh HII2) (uh HZI) (uh HIO) ?_;clear hBB;rw[← uh HW4])
  | (refine wpList_load_mid rfl 33 _ rfl w3.heap.size 0 rfl IB _ hr4 Tryz.underlying33 rfl (uh HII) ?_;clear hr4)
  | (refine za4 rfl 70 _ rfl CC ?hbc ?_))
 case hbc=>simpa using uh HBCH2
 refine cc.mono ?_
 rintro e w5 ⟨v5,rfl,hN5,g5⟩
 obtain ⟨a5,c5,rfl,hD5⟩:=hN5.dat
 have G5:=tn (uh HG4) g5
 have hS5:=(uh HS4).none g5
 obtain ⟨n5,hn5⟩:∃ n,n=oneD.length:=⟨_,rfl⟩
 simp only[if_true]
 rw[← hn5]
 obtain ⟨W6,hW6,hB6,g6⟩:=zbl w5 42 #[.int .i64 0,.slice none 0 0] [.int .i64 3,.slice a5 n5 c5]
 have hBO:Blk (w5.alloc (.cells #[.int .i64 0,.slice none 0 0] 42)) w5.heap.size 42 [.int .i64 0,.slice none 0 0]:=Blk.new w5 _ _
 have hr6:=zal hB6
 have G6:=tn G5 g6
 have cp2:Calls Tryz.prog 32 #[.pointer (some ⟨sb,0,none⟩),.agg #[.int .i64 3,.slice a5 n5 c5]] W6 fun e w'=>e = .returned (.tuple #[keyV oneT,.int .i64 0])∧SetAt w w' sb mb oneS∧W6.grownBy w' (some mb):=by
  rw[hn5]
  exact zm2 w W6 sb mb zqi (hS5.none g6) 3 a5 c5 oneD (hD5.none g6) zlx (by decide) ((uh HT).kept0 G6)
 obtain ⟨TB,hTB⟩:∃ l,l=oneT.map bv:=⟨_,rfl⟩
 have hTl:TB.length=32:=by rw[hTB];simp[zdi]
 have hTo:TB.toArray.all (·.oneCell')=true:=by rw[hTB];exact all_oneCell_toArray (za6 _)
 have hiT:(Tryz.prog.info? 33).map (·.size)=some TB.length:=by rw[hTl];exact zat
 have hiT2:(Tryz.prog.info? 33).map (·.size)=some TB.toArray.size:=by simpa using hiT
 have hZT:Z.toList.toArray.size=TB.toArray.size:=by have:=uh HZ;simp[this,hTl]
 have hkT:keyV oneT = .agg TB.toArray:=by rw[hTB];rfl
 rw[hkT] at cp2
 obtain ⟨HW6,HBO,HG6,HTO,HIT,HIT2⟩:=zh6 hW6 hBO G6 hTo hiT hiT2
 obtain ⟨HZT,HKT,HTB⟩:=zh3 hZT hkT hTB
 clear cc hN5 g5 hD5 G5 hS5 hn5 hW6 hB6 g6 hBO G6 hTl hTo hiT hiT2 hZT hkT hTB HS4 HG4 HBZ HW4 HBCH2 HIB HII HII2 HZI HIO HBS HG2
 go_wp2_with (first
  | (have hBB:=uh HBO;refine wpList_store_row rfl 42 _ _ rfl w5.heap.size #[.int .i64 3,.slice a5 n5 c5] rfl rfl _ _ hBB zav rfl (zcq rfl) ?_;clear hBB;rw[← uh HW6])
  | (refine wpList_load_mid rfl 42 _ rfl w5.heap.size 0 rfl [Value.int IntKind.i64 3,Value.slice a5 n5 c5] _ hr6 Tryz.underlying42 rfl zav ?_;clear hr6))
 refine cp2.mono ?_
 rintro e w7 ⟨rfl,hS7,g7⟩
 have G7:w.grownBy w7 none:=zae (uh HG6) g7 (fun x e=>Or.inl (by cases e;exact hS7.nm))
 obtain ⟨W8,hW8,hB8,g8⟩:=zbl w7 33 Z TB
 have hBZ8:Blk (w7.alloc (.cells Z 33)) w7.heap.size 33 Z.toList:=by simpa using Blk.new w7 33 Z.toList
 have hr8:=zal hB8
 obtain ⟨W9,hW9,hB9,g9⟩:=zag W8 33 TB
 have hbs9:(Instr.buildSlice 29 1 #[(0,.agg TB.toArray)]).run Tryz.prog W8 = .ok (.slice (some ⟨W8.heap.size,0,none⟩) 1 1) W9:=by rw[hW9,uh HTB];exact zfl oneT zdi W8
 have g79:=tn g8 g9
 have hS9:=hS7.none g79
 have G9:=tn G7 g79
 have hI9:Ids W9 (some ⟨W8.heap.size,0,none⟩) 1 [oneT]:=⟨(fun e=>by cases e),Nat.le_refl _,by unfold maxLen;decide,(fun ad e _=>by cases e;rfl),fun ad e i hi=>by
  cases e
  have:i=0:=by simpa using hi
  subst this
  have:=zal hB9
  rw[uh HTB] at this
  exact this,fun x hx=>by rw[List.mem_singleton.1 hx];exact zdi⟩
 have cr:Calls Tryz.prog 22 #[.pointer (some ⟨sb,0,none⟩),.slice (some ⟨W8.heap.size,0,none⟩) 1 1] W9 fun e w'=>∃ a1 c1 a2 c2,e = .returned (.tuple #[.slice a1 2 c1,.slice a2 0 c2])∧W9.grownBy w' none:=by
  refine (zs2 W9 _ oneS hS9.sat _ 1 [oneT] hI9 (fun ad e=>by cases e;exact hB9.lt) (by simp)).mono ?_
  rintro e w' ⟨v1,v2,T,M,q1,q2,q3,q4,q5,q6,q7⟩
  have h1:=ztf q2 q4
  have h2:=zna q5
  subst h2
  obtain ⟨a1,c1,rfl⟩:=zbd q6.one
  obtain ⟨a2,c2,rfl⟩:=zbd q6.two
  rw[h1] at q1
  exact ⟨a1,c1,a2,c2,q1,q7⟩
 have hB89:=hB8.kept g9 (by simp)
 obtain ⟨HW8,HBZ8,HBS9,HG9,HS9,HB89⟩:=zh6 hW8 hBZ8 hbs9 G9 hS9 hB89
 clear cp2 hS7 g7 G7 hW8 hB8 g8 hBZ8 hW9 hB9 g9 hbs9 g79 hS9 G9 hI9 hB89
 go_wp2_with (first
  | (have hBB:=uh HBZ8;refine wpList_store_row rfl 33 _ _ rfl w7.heap.size TB.toArray rfl rfl _ _ hBB (uh HIT2) (uh HZT) (uh HTO) ?_;clear hBB;rw[← uh HW8])
  | (refine wpList_load_mid rfl 33 _ rfl w7.heap.size 0 rfl TB _ hr8 Tryz.underlying33 rfl (uh HIT) ?_;clear hr8)
  | (refine zaq rfl 29 _ rfl (.agg TB.toArray) _ rfl (uh HBS9) ?_))
 refine cr.mono ?_
 rintro e w10 ⟨a1,c1,a2,c2,rfl,g10⟩
 have G10:=tn (uh HG9) g10
 have hS10:=(uh HS9).none g10
 have hB10:=(uh HB89).kept g10 (by simp)
 have hr10:=zal hB10
 have cg:Calls Tryz.prog 28 #[.pointer (some ⟨sb,0,none⟩),.agg TB.toArray] w10 fun e w'=>∃ gl c3,e = .returned (.slice (some ⟨gl,0,none⟩) 1 c3)∧w'.rangeAt gl 0 TB∧w10.grownBy w' none:=by
  rw[← uh HKT]
  refine (zof w10 _ oneS hS10.sat oneT zdi).mono ?_
  rintro e w' ⟨v,T,q1,q2,q3,q4⟩
  have h1:=zyd q2
  subst h1
  obtain ⟨gl,c3,rfl,_,_⟩:=q3.form (by simp)
  refine ⟨gl,c3,q1,?_,q4⟩
  obtain ⟨ao,c,e1,hI⟩:=Ids.own q3 (fun x hx=>by rw[List.mem_singleton.1 hx];exact zdi)
  cases e1
  have:=hI.row ⟨gl,0,none⟩ rfl 0 (by simp)
  rw[uh HTB]
  simpa using this
 obtain ⟨HG10,HS10,HB10⟩:=zh3 G10 hS10 hB10
 clear cr g10 G10 hS10 hB10
 go_upto_region 7 with (first
  | (refine wpList_load_mid rfl 33 _ rfl w7.heap.size 0 rfl TB _ hr10 Tryz.underlying33 rfl (uh HIT) ?_;clear hr10)
  | (go_at_call 28;refine cg.mono ?_;rintro e WA ⟨gl,c3,rfl,hrL,gA⟩;clear cg))
 have HGA:=hide (tn (uh HG10) gA)
 have hSA:=(uh HS10).none gA
 have hrT:=zal ((uh HB10).kept gA (by simp))
 have HEQ:Hid (∀ V,(binOp .eql 33 (.agg TB.toArray) (.agg TB.toArray)).run Tryz.prog V = .ok (.bool true) V):=fun V=>by
  have:=zzf V oneT oneT zdi zdi
  rw[← uh HTB] at this
  simpa using this
 have HFO:Hid (∀ V,WA.grownBy V none→Calls Tryz.prog 26 #[.pointer (some ⟨sb,0,none⟩),.agg TB.toArray,.agg TB.toArray] V fun e w'=>e = .returned (.bool true)∧V.grownBy w' none):=fun V hV=>by
  rw[← uh HKT]
  refine (ziy V _ oneS (hSA.none hV).sat oneT oneT zdi zdi).mono ?_
  rintro e w' ⟨y,q1,q2,q3⟩
  rw[q2.2 (.root (List.mem_singleton.2 rfl))] at q1
  exact ⟨q1,q3⟩
 have HID:Hid (∀ V,WA.grownBy V none→Calls Tryz.prog 19 #[.pointer (some ⟨sb,0,none⟩)] V fun e w'=>∃ a9 c9,e = .returned (.slice a9 2 c9)∧V.grownBy w' none):=fun V hV=>by
  refine (zv2 V _ oneS (hSA.none hV).sat).mono ?_
  rintro e w' ⟨v,q1,q2,q3⟩
  rw[zv8] at q2
  obtain ⟨a9,c9,rfl⟩:=zbd q2
  exact ⟨a9,c9,q1,q3⟩
 have h0:WA.grownBy WA.drew none:=zak (zab _ _)
 clear hSA gA
 refine wp_region_noPanic ?_
 refine wp_region_held_drew (S:=fun V=>WA.grownBy V none) (by kernel_rfl) h0 (fun _ => ?_)
 obtain ⟨WD,hWD⟩:∃ V,V=WA.drew:=⟨_,rfl⟩
 rw[← hWD]
 rw[← hWD] at h0
 clear hWD
 refine tq 0 42 (.move (.tmp 3)) (.int .i64 (0)) h0 ?_
 refine tq 1 43 (.binOp .eql 38 (.tmp 42) (.const (.int .i64 0)) 38) (.bool true) h0 ?_
 refine tq 2 44 (.move (.tmp 43)) (.bool true) h0 ?_
 refine tq 3 45 (.move (.tmp 7)) (.int .i64 (0)) h0 ?_
 (try simp only[pq])
 refine tq 4 46 (.binOp .eql 38 (.tmp 45) (.const (.int .i64 0)) 38) (.bool true) h0 ?_
 refine tq 5 47 (.pick (.tmp 44) (.tmp 46) (.const (.bool false))) (.bool true) h0 ?_
 refine tq 6 48 (.move (.tmp 47)) (.bool true) h0 ?_
 refine tq 7 49 (.move (.tmp 8)) (.slice a1 2 c1) h0 ?_
 (try simp only[pq])
 refine tq 8 50 (.call { callee := .builtin .len,args := #[(.tmp 49)],argTypes := #[29] }) (.int .i64 (2)) h0 ?_
 refine tq 9 51 (.binOp .eql 3 (.tmp 50) (.const (.int .i64 2)) 3) (.bool true) h0 ?_
 refine tq 10 52 (.pick (.tmp 48) (.tmp 51) (.const (.bool false))) (.bool true) h0 ?_
 refine tq 11 53 (.move (.tmp 52)) (.bool true) h0 ?_
 (try simp only[pq])
 refine tq 12 54 (.move (.tmp 9)) (.slice a2 0 c2) h0 ?_
 refine tq 13 55 (.call { callee := .builtin .len,args := #[(.tmp 54)],argTypes := #[29] }) (.int .i64 (0)) h0 ?_
 refine tq 14 56 (.binOp .eql 3 (.tmp 55) (.const (.int .i64 0)) 3) (.bool true) h0 ?_
 refine tq 15 57 (.pick (.tmp 53) (.tmp 56) (.const (.bool false))) (.bool true) h0 ?_
 (try simp only[pq])
 refine tq 16 58 (.move (.tmp 57)) (.bool true) h0 ?_
 refine tq 17 59 (.move (.tmp 10)) (.slice (some ⟨gl,0,none⟩) 1 c3) h0 ?_
 refine tq 18 60 (.call { callee := .builtin .len,args := #[(.tmp 59)],argTypes := #[29] }) (.int .i64 (1)) h0 ?_
 refine tq 19 61 (.binOp .eql 3 (.tmp 60) (.const (.int .i64 1)) 3) (.bool true) h0 ?_
 (try simp only[pq])
 refine tq 20 62 (.pick (.tmp 58) (.tmp 61) (.const (.bool false))) (.bool true) h0 ?_
 refine tq 21 63 (.move (.tmp 62)) (.bool true) h0 ?_
 refine tq 22 64 (.move (.tmp 10)) (.slice (some ⟨gl,0,none⟩) 1 c3) h0 ?_
 refine tz 25 67 (.load 33 (.tmp 6)) (.agg TB.toArray) h0 ?_ (y:=(yieldsIf_load_mid (by rfl) _ _ rfl _ _ rfl TB _ (fun V hV=>zaf hrT hV (by simp)) Tryz.underlying33 rfl (uh HIT)))
 (try simp only[pq])
 refine tq 23 65 (.indexAddr 29 (.tmp 64) (.const (.int .i64 0))) (.pointer (some ⟨gl,0,none⟩)) h0 ?_
 refine tz 24 66 (.load 33 (.tmp 65)) (.agg TB.toArray) h0 ?_ (y:=(yieldsIf_load_mid (by rfl) _ _ rfl _ _ rfl TB _ (fun V hV=>zaf hrL hV (by simp)) Tryz.underlying33 rfl (uh HIT)))
 refine tz 26 68 (.binOp .eql 33 (.tmp 66) (.tmp 67) 33) (.bool true) h0 ?_ (y:=(zeh (by rfl) _ _ _ _ rfl _ _ _ rfl rfl zej (uh HEQ)))
 refine tq 27 69 (.pick (.tmp 63) (.tmp 68) (.const (.bool false))) (.bool true) h0 ?_
 (try simp only[pq])
 refine tq 28 70 (.move (.tmp 69)) (.bool true) h0 ?_
 refine tq 29 71 (.move (.tmp 1)) (.pointer (some ⟨sb,0,none⟩)) h0 ?_
 refine tz 30 72 (.load 33 (.tmp 6)) (.agg TB.toArray) h0 ?_ (y:=(yieldsIf_load_mid (by rfl) _ _ rfl _ _ rfl TB _ (fun V hV=>zaf hrT hV (by simp)) Tryz.underlying33 rfl (uh HIT)))
 refine tz 31 73 (.load 33 (.tmp 6)) (.agg TB.toArray) h0 ?_ (y:=(yieldsIf_load_mid (by rfl) _ _ rfl _ _ rfl TB _ (fun V hV=>zaf hrT hV (by simp)) Tryz.underlying33 rfl (uh HIT)))
 (try simp only[pq])
 refine rd 32 (some 74) (.call { callee := .value (.func 26),args := #[(.tmp 71),(.tmp 72),(.tmp 73)],argTypes := #[24,33,33] }) (fun K9 hK9 => ?_)
 go_simp
 go_at_call 26
 refine (uh HFO WD h0).mono ?_
 rintro e wf ⟨rfl,gf⟩
 go_wp2_with fail
 have hf:=tn h0 gf
 refine hK9.out _ _ hf (fun _ => ?_)
 clear hK9 K9 gf
 refine tq 33 75 (.pick (.tmp 70) (.tmp 74) (.const (.bool false))) (.bool true) hf ?_
 refine tq 34 76 (.move (.tmp 75)) (.bool true) hf ?_
 refine tq 35 77 (.move (.tmp 1)) (.pointer (some ⟨sb,0,none⟩)) hf ?_
 (try simp only[pq])
 refine rd 36 (some 78) (.call { callee := .value (.func 19),args := #[(.tmp 77)],argTypes := #[24] }) (fun K9 hK9 => ?_)
 go_simp
 go_at_call 19
 refine (uh HID wf hf).mono ?_
 rintro e wi ⟨a9,c9,rfl,gi⟩
 go_wp2_with fail
 have hi:=tn hf gi
 refine hK9.out _ _ hi (fun _ => ?_)
 clear hK9 K9 gi
 refine tq 37 79 (.call { callee := .builtin .len,args := #[(.tmp 78)],argTypes := #[29] }) (.int .i64 (2)) hi ?_
 refine tq 38 80 (.binOp .eql 3 (.tmp 79) (.const (.int .i64 2)) 3) (.bool true) hi ?_
 refine tq 39 81 (.pick (.tmp 76) (.tmp 80) (.const (.bool false))) (.bool true) hi ?_
 (try simp only[pq])
 refine tq 40 0 (.assign (.tmp 81)) (.bool true) hi ?_
 (try simp only[Act.put,pq1,pq2])
 refine wpAnyH_done (by kernel_rfl) ?_ _
 refine NoPanic.normal ?_
 go_wp2
 go_ret
 exact ⟨rfl,tn (uh HGA) hi⟩
end Go.Proofs.YthhnfloohbdaiaaGreatDoor
