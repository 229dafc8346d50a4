/-.-/
import Derived.Test.YthhkapcbocgcoaaGreatDoorKj13
import Derived.Laws.BytesString
set_option linter.unusedVariables false
set_option maxHeartbeats 6400000
set_option maxRecDepth 100000
namespace Go.Proofs.YthhkapcbocgcoaaGreatDoor
open Go.RowKit
theorem fold_any (n:Int)(w:World)(h0:-9223372036854775808<=n)(D:n<=9223372036854775807) :
  Calls Tryz.prog 196 #[H n] w fun e w'=>e = .returned (.int .u64 (zz n))/\w'=w:=by
 have HX:=Z (fold_eq n h0 D);go_enter Tryz.func196,Tryz.ntmps196;go_wp2;go_ret;exact⟨zB (U HX),rfl⟩
theorem Tryz.arrayLen224:Tryz.prog.arrayLen 224 = 10:=by kernel_rfl
theorem slice_head10 (B k:Nat)(h:k<=9)(W:World) :
  (Instr.sliceAt 224 (I B 0) none (some (H ((k:Int)+1))) none).run Tryz.prog W = .ok (.slice (some (J B 0)) (k+1) 10) W:=by
 rw[run_sliceAt_array_h W 224 _ (by kernel_rfl) _ _ (by omega) (by rw[Tryz.arrayLen224];omega),Tryz.arrayLen224];have e:((k:Int)+1).toNat=k+1:=by omega
 have hs:(sizeOf (Tryz.prog.elem 224)).run Tryz.prog W = .ok 1 W:=by kernel_rfl
 rw[hs,e];simp[slicedAt,Result.andThen,Addr.add]
theorem implPut_any (n:Int)(w:World)(h0:-9223372036854775808<=n)(D:n<=9223372036854775807) :
  Calls Tryz.prog 173 #[H n] w fun e w'=>∃v,e = .returned v/\OwnT w.heap.size w' v (putU (zz n))/\yn w w':=by
 have HL:=Z (lJ _ (zz_lt n h0 D));have H6:=Z (zz_lt n h0 D);have HF:=Z (fun w=>fold_any n w h0 D);clear h0 D;generalize hz:zz n=u0 at *;have HZ:=Z hz;clear hz;go_enter Tryz.func173,Tryz.ntmps173;go_wp2_with (go_at_call 196;refine(U HF _).mono ?_;rintro e w' ⟨rfl,rfl⟩);go_loopw [4,5] (fun u c wr=>∃(x:Nat) (done:List Int),u = .int .u64 x/\Lt64 x/\c=H done.length/\done++putU x=putU u0/\Arr 10 w.heap.size w wr done) (fun u _ _=>(intOf u).toNat)
 case atStart=>exact⟨u0,[],rfl,U H6,rfl,rfl,arr_start _ _ _ rfl⟩
 case round =>
  obtain⟨x,done,rfl,hx,rfl,hdone,harr⟩:=hrel;have HD:=Z hdone;have dJ:=putU_at (U HL) hdone;have hdl':(done.length:Int)<10:=by omega
  clear hdone;obtain⟨v0,hv0⟩:=harr.some (j:=done.length) (by omega);have hf0:=harr.free done.length
  by_cases xM:x<128
  ·have HE:=Z (putU_end xM (U HD));have HA:=Z (arr_step (x:Int) harr (by omega));have hsl:=slice_head10 w.heap.size done.length (by omega);clear harr;go_wp2_with fail;go_ret;have hE:=U HE;rw[hE] at HA;have xC:done.length+1=(putU u0).length:=by rw[<- hE];simp
   refine⟨_,rfl,?_,(U HA).below⟩;rw[xC];exact arr_own (U HA) rfl (by omega)
  ·have uL:(128:Int)<=x:=by omega
   have hand:=and127 x hx;have HA:=Z (arr_step ((x:Int) % 128+128) harr (by omega));clear harr;go_wp2_with fail;go_roundw
   case rel=>exact⟨x / 128,done ++ [(x:Int) % 128+128],by go_num,by unfold Lt64 at *;omega,by simp,putU_step xM (U HD),U HA⟩
   case measure=>simp[intOf];omega
def strB (ns:List Int):ByteArray:=ns.foldl (fun r n=>r.push (UInt8.ofNat n.toNat)) ByteArray.empty
theorem load_row {P:Program}(W:World)(b off:Nat)(ns:List Int)(h:∀i,i<ns.length->W.cell? (J b (off+i))=some (.int .u8 (ns.getD i 0))) :
  ∀(m i:Nat) (acc:Array Value),i+m=ns.length->acc=((ns.take i).map (Value.int .u8)).toArray->(loadCellsFrom (J b off) i m acc).run P W = .ok (ns.map (Value.int .u8)).toArray W:=by
 intro m
 induction m with
 | zero =>
  intro i acc hi ha;subst ha;rw[xa (by omega)];rfl
 | succ m ih =>
  intro i acc hi ha;have e:((J b off):Addr).add i=(J b (off+i)):=by unfold Addr.add;split <;> simp_all
  have hc:=h i (by omega);simp only[loadCellsFrom,Sem.run_bind,e];have hl:(load (J b (off+i))).run P W = .ok (.int .u8 (ns.getD i 0)) W:=by simp[hc]
  rw[hl];simp only[Result.andThen];refine ih (i+1) _ (by omega) ?_;rw[ha,take_get ns i (by omega),List.map_append];simp
theorem conv_text (v:Value)(ns:List Int)(W:World)(hr:Rd W v ns) :
  (convert 22 9 v).run Tryz.prog W = .ok (yk (strB ns)) W:=by
 obtain⟨a,cap,rfl,_,hc⟩:=hr;rw[run_convert_bytes_string W _ _ 5 a _ _ Tryz.underlying22 Tryz.underlying5 Tryz.underlying9]
 by_cases xr:ns = []
 ·subst xr;cases a with
  | none=>rfl
  | some ad=>rfl
 ·obtain⟨b,off,rfl,xt⟩:=hc xr;exact run_bytesToString W (J b off) ns.length cap ns (load_row W b off ns xt ns.length 0 #[] (by omega) rfl)
theorem plc1_any (g:Nat)(w:World):Calls Tryz.prog 136 #[I g 0] w fun e w'=>e = .returned (I g 1)/\w'=w:=by
 go_enter Tryz.func136,Tryz.ntmps136;go_wp2;go_ret;exact⟨rfl,rfl⟩
theorem plc2_any (g:Nat)(w:World):Calls Tryz.prog 127 #[I g 0] w fun e w'=>e = .returned (I g 2)/\w'=w:=by
 go_enter Tryz.func127,Tryz.ntmps127;go_wp2;go_ret;exact⟨rfl,rfl⟩
theorem plc3_any (g:Nat)(w:World):Calls Tryz.prog 128 #[I g 0] w fun e w'=>e = .returned (I g 3)/\w'=w:=by
 go_enter Tryz.func128,Tryz.ntmps128;go_wp2;go_ret;exact⟨rfl,rfl⟩
theorem plc4_any (g:Nat)(w:World):Calls Tryz.prog 129 #[I g 0] w fun e w'=>e = .returned (I g 4)/\w'=w:=by
 go_enter Tryz.func129,Tryz.ntmps129;go_wp2;go_ret;exact⟨rfl,rfl⟩
theorem plc5_any (g:Nat)(w:World):Calls Tryz.prog 130 #[I g 0] w fun e w'=>e = .returned (I g 5)/\w'=w:=by
 go_enter Tryz.func130,Tryz.ntmps130;go_wp2;go_ret;exact⟨rfl,rfl⟩
theorem plc6_any (g:Nat)(w:World):Calls Tryz.prog 137 #[I g 0] w fun e w'=>e = .returned (I g 6)/\w'=w:=by
 go_enter Tryz.func137,Tryz.ntmps137;go_wp2;go_ret;exact⟨rfl,rfl⟩
theorem plc9_any (g:Nat)(w:World):Calls Tryz.prog 135 #[I g 0] w fun e w'=>e = .returned (I g 9)/\w'=w:=by
 go_enter Tryz.func135,Tryz.ntmps135;go_wp2;go_ret;exact⟨rfl,rfl⟩
theorem plc10_any (g:Nat)(w:World):Calls Tryz.prog 139 #[I g 0] w fun e w'=>e = .returned (I g 10)/\w'=w:=by
 go_enter Tryz.func139,Tryz.ntmps139;go_wp2;go_ret;exact⟨rfl,rfl⟩
theorem plc11_any (g:Nat)(w:World):Calls Tryz.prog 140 #[I g 0] w fun e w'=>e = .returned (I g 11)/\w'=w:=by
 go_enter Tryz.func140,Tryz.ntmps140;go_wp2;go_ret;exact⟨rfl,rfl⟩
theorem plc12_any (g:Nat)(w:World):Calls Tryz.prog 141 #[I g 0] w fun e w'=>e = .returned (I g 12)/\w'=w:=by
 go_enter Tryz.func141,Tryz.ntmps141;go_wp2;go_ret;exact⟨rfl,rfl⟩
theorem plc13_any (g:Nat)(w:World):Calls Tryz.prog 138 #[I g 0] w fun e w'=>e = .returned (I g 13)/\w'=w:=by
 go_enter Tryz.func138,Tryz.ntmps138;go_wp2;go_ret;exact⟨rfl,rfl⟩
def plcO (o:Nat):Bool:=(1<=o&&o<=6)||(9<=o&&o<=13)
theorem plc_any (o g:Nat)(w:World)(h:plcO o=true):Calls Tryz.prog (plcV o) #[I g 0] w fun e w'=>e = .returned (I g o)/\w'=w:=by
 rcases(show o=1\/o=2\/o=3\/o=4\/o=5\/o=6\/o=9\/o=10\/o=11\/o=12\/o=13 by simp[plcO] at h;omega) with rfl|rfl|rfl|rfl|rfl|rfl|rfl|rfl|rfl|rfl|rfl
 ·exact plc1_any g w
 ·exact plc2_any g w
 ·exact plc3_any g w
 ·exact plc4_any g w
 ·exact plc5_any g w
 ·exact plc6_any g w
 ·exact plc9_any g w
 ·exact plc10_any g w
 ·exact plc11_any g w
 ·exact plc12_any g w
 ·exact plc13_any g w
def cutB (s:ByteArray):ByteArray:=if 12<s.size then s.extract 0 13 else s
theorem gI (s:ByteArray):(cutB s).size<=13:=by
 unfold cutB;split
 ·simp;omega
 ·omega
theorem cutB_one (s:ByteArray)(h:s.size=13):cutB s=s:=by
 unfold cutB;rw[if_pos (by omega),<- h];exact ByteArray.extract_zero_size
theorem implCut_any (s:ByteArray)(w:World)(hs:s.size<=maxLen) :
  Calls Tryz.prog 198 #[yk s] w fun e w'=>e = .returned (yk (cutB s))/\w'=w:=by
 unfold maxLen at hs
 by_cases h:12<s.size
 ·have HF:=Z (show cutB s=s.extract 0 13 from if_pos h);have h':(12:Int)<s.size:=by omega
  go_enter Tryz.func198,Tryz.ntmps198;go_wp2;go_ret;exact⟨by rw[U HF];rfl,rfl⟩
 ·have HF:=Z (show cutB s=s from if_neg h);have h':(s.size:Int)<=12:=by omega
  go_enter Tryz.func198,Tryz.ntmps198;go_wp2;go_ret;exact⟨by rw[U HF];rfl,rfl⟩
end Go.Proofs.YthhkapcbocgcoaaGreatDoor
