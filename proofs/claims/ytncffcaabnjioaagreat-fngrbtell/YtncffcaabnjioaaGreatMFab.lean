/-
  The walk of FnGrbTell: whatever the code, it comes out true, and nothing that was there is turned.
-/
import Derived.Test.YtncffcaabnjioaaGreatMFaa
set_option maxHeartbeats 8000000
set_option maxRecDepth 100000
namespace Go.Proofs.YtncffcaabnjioaaGreat
open Go.RowKit
set_option linter.unusedVariables false
theorem xU (w:World) (a0:Option Addr) (len0 cap0:Nat) (s0:EV w a0 len0 cap0) (a1:Option Addr) (len1 cap1:Nat) (s1:EV w a1 len1 cap1):Calls Tryz.prog 4 #[.slice a0 len0 cap0,.slice a1 len1 cap1] w fun e w'=>e= .returned (.bool true)∧Below w.heap.size w w':=by
 by_cases c0:(1048576:Int)<(len0:Int)
 ·go_enter Tryz.func4,Tryz.ntmps4;go_wp2;go_ret;exact⟨rfl,cE _ _⟩
 by_cases c1:(1048576:Int)<(len1:Int)
 ·go_enter Tryz.func4,Tryz.ntmps4;go_wp2;go_ret;exact⟨rfl,cE _ _⟩
 go_enter Tryz.func4,Tryz.ntmps4;go_wp2_with fail;refine(pG w a0 len0 cap0 s0).mono ?_;rintro e wd ⟨o,pa,pc,p,la0,n,lc0,ad0,cp0,L,rfl,hP,hG,hlp,hln,hbd⟩;have HP0:=aA hP
 have HG0:=aA hG;have Z0:=aA hbd
 have S1:=aA (s1.below hbd);clear hP hG hbd s0 s1;have hn5:(n:Int)≤12:=by omega
 have hp5:(p.length:Int)≤400:=by omega
 obtain⟨R,hR⟩:∃R,aP o p n (lN L) (fN L)=R:=⟨_,rfl⟩
 have HR:=aA (hR);clear hR;obtain⟨gk,hgk⟩:∃b,rU o n L=b:=⟨_,rfl⟩
 have HGK:=aA (hgk);clear hgk;go_wp2_with fail;refine(pG wd a1 len1 cap1 S1.out).mono ?_;rintro e we ⟨oq,qa,qc,q,lq,nq,lcq,adq,cpq,Lq9,rfl,hQ,hG9,hlq,hlnq,hbe⟩;have HQ0:=aA hQ
 have hq5:(q.length:Int)≤400:=by omega
 clear hQ hG9 S1;have H1:=aA (HP0.out.below hbe)
 clear HP0;have H2:=aA (HG0.out.below hbe)
 clear HG0;have Z3:=aA (aB Z0.out hbe)
 clear Z0;clear hbe;rcases R with _|S
 ·go_wp2_with fail;refine(dH _ o _ _ _ _ n _ _ (lN L) _ (fN L) H1.out H2.out HR.out).mono ?_;rw[show nZ none=false from rfl];rintro e w4 ⟨rfl,b5⟩;have H6:=aA (H1.out.below b5)
  clear H1;have H7:=aA (H2.out.below b5)
  clear H2;have H8:=aA (HQ0.out.below b5)
  clear HQ0;have Z9:=aA (aB Z3.out b5)
  clear Z3;clear b5;go_wp2_with fail;refine(mY _ o _ _ _ _ n _ _ (lN L) _ (fN L) H6.out H7.out HR.out).mono ?_;rw[show nZ none=false from rfl];rintro e w10 ⟨rfl,b11⟩;have H12:=aA (H6.out.below b11)
  clear H6;have H13:=aA (H7.out.below b11)
  clear H7;have H14:=aA (H8.out.below b11)
  clear H8;have Z15:=aA (aB Z9.out b11)
  clear Z9;clear b11;go_wp2_with fail;refine(eC _).mono ?_;rintro e w16 ⟨rfl,b17⟩;have H18:=aA (H12.out.below b17)
  clear H12;have H19:=aA (H13.out.below b17)
  clear H13;have H20:=aA (H14.out.below b17)
  clear H14;have Z21:=aA (aB Z15.out b17)
  clear Z15;clear b17;go_wp2;go_ret;exact⟨rfl,Z21.out⟩
 ·by_cases hr0:S.r=[]
  ·have HGI:=aA (pH hr0);have HR0:=aA (hr0)
   have hl0:(S.r.length:Int)=0:=by rw[hr0];rfl
   have HL0:=aA (hl0);have hq0:((S.r.length:Int)==0)=true:=by rw[hl0];rfl
   clear hr0 hl0;go_wp2_with fail;refine(dH _ o _ _ _ _ n _ _ (lN L) _ (fN L) H1.out H2.out HR.out).mono ?_;rw[HGI.out];rintro e w22 ⟨rfl,b23⟩;have H24:=aA (H1.out.below b23)
   clear H1;have H25:=aA (H2.out.below b23)
   clear H2;have H26:=aA (HQ0.out.below b23)
   clear HQ0;have Z27:=aA (aB Z3.out b23)
   clear Z3;clear b23;go_wp2_with fail;refine(mY _ o _ _ _ _ n _ _ (lN L) _ (fN L) H24.out H25.out HR.out).mono ?_;rw[HGI.out];rintro e w28 ⟨rfl,b29⟩;have H30:=aA (H24.out.below b29)
   clear H24;have H31:=aA (H25.out.below b29)
   clear H25;have H32:=aA (H26.out.below b29)
   clear H26;have Z33:=aA (aB Z27.out b29)
   clear Z27;clear b29;go_wp2_with fail;refine(tF _ o _ n _ _ _ L H31.out).mono ?_;rw[HGK.out];rintro e w34 ⟨rfl,b35⟩;have H36:=aA (H30.out.below b35)
   clear H30;have H37:=aA (H31.out.below b35)
   clear H31;have H38:=aA (H32.out.below b35)
   clear H32;have Z39:=aA (aB Z33.out b35)
   clear Z33;clear b35;cases gk
   ·go_wp2_with fail;refine(eC _).mono ?_;rintro e w40 ⟨rfl,b41⟩;have H42:=aA (H36.out.below b41)
    clear H36;have H43:=aA (H37.out.below b41)
    clear H37;have H44:=aA (H38.out.below b41)
    clear H38;have Z45:=aA (aB Z39.out b41)
    clear Z39;clear b41;go_wp2;go_ret;exact⟨rfl,Z45.out⟩
   ·obtain⟨hBas,ho3,hlst⟩:=sU HGK.out;have HBAS:=aA (hBas)
    clear hBas ho3 hlst;obtain⟨R2,hR2⟩:∃R,aP o q n (lN L) (fN L)=R:=⟨_,rfl⟩
    have HR2:=aA (hR2);clear hR2;obtain⟨d,o3,h3⟩:∃Q q9,xK p q=(Q,q9):=⟨_,_,rfl⟩
    have H3:=aA (h3);clear h3;obtain⟨R3,hR3⟩:∃R,aP o d n (lN L) (fN L)=R:=⟨_,rfl⟩
    have HR3:=aA (hR3);clear hR3;rcases R2 with _|S2
    ·go_wp2_with fail;refine(jF H36.out H37.out HR.out).mono ?_;rintro e w46 ⟨qa47,qc48,ad49,cp50,la51,lc52,rfl,b53,hq54,hl55⟩;have H56:=aA (H36.out.below b53)
     clear H36;have H57:=aA (H37.out.below b53)
     clear H37;have H58:=aA (H38.out.below b53)
     clear H38;have Z59:=aA (aB Z39.out b53)
     clear Z39;have H60:Hid (RL w46 la51 lc52 S.r):=hl55
     clear hl55;have H61:Hid (fZ w46 qa47 n qc48 ad49 (lN S.q) cp50 (fN S.q)):=hq54
     clear hq54;clear b53;clear H61;go_wp2_with fail;refine(AU H58.out H57.out HR2.out).mono ?_;rintro e w62 ⟨qa63,qc64,ad65,cp66,la67,lc68,rfl,b69,hq70,hl71⟩;have H72:=aA (H56.out.below b69)
     clear H56;have H73:=aA (H57.out.below b69)
     clear H57;have H74:=aA (H58.out.below b69)
     clear H58;have H75:=aA (H60.out.below b69)
     clear H60;have Z76:=aA (aB Z59.out b69)
     clear Z59;have H77:Hid (RL w62 la67 lc68 []):=hl71
     clear hl71;have H78:Hid (fZ w62 qa63 0 qc64 ad65 (lN (fun _=>[])) cp66 (fN (fun _=>[]))):=hq70
     clear hq70;clear b69;go_wp2_with fail;refine(BN H72.out H74.out).mono ?_;rw[H3.out];rintro e w79 ⟨a80,c81,rfl,b82,r83⟩;have H84:=aA (H72.out.below b82)
     clear H72;have H85:=aA (H73.out.below b82)
     clear H73;have H86:=aA (H74.out.below b82)
     clear H74;have H87:=aA (H75.out.below b82)
     clear H75;have H88:=aA (H77.out.below b82)
     clear H77;have H89:=aA (H78.out.below b82)
     clear H78;have Z90:=aA (aB Z76.out b82)
     clear Z76;have H91:Hid (RL w79 a80 c81 d):=r83
     clear r83;clear b82;rcases R3 with _|S3
     ·go_wp2_with fail;refine(dH _ o _ _ _ _ n _ _ (lN L) _ (fN L) H91.out H85.out HR3.out).mono ?_;rw[show nZ none=false from rfl];rintro e w92 ⟨rfl,b93⟩;have H94:=aA (H84.out.below b93)
      clear H84;have H95:=aA (H85.out.below b93)
      clear H85;have H96:=aA (H86.out.below b93)
      clear H86;have H97:=aA (H87.out.below b93)
      clear H87;have H98:=aA (H88.out.below b93)
      clear H88;have H99:=aA (H89.out.below b93)
      clear H89;have H100:=aA (H91.out.below b93)
      clear H91;have Z101:=aA (aB Z90.out b93)
      clear Z90;clear b93;go_wp2;go_ret;exact⟨rfl,Z101.out⟩
     ·obtain⟨gg,hgg⟩:∃b,nZ (some S3)=b:=⟨_,rfl⟩
      have HGG:=aA (hgg);clear hgg;go_wp2_with fail;refine(dH _ o _ _ _ _ n _ _ (lN L) _ (fN L) H91.out H85.out HR3.out).mono ?_;rw[HGG.out];rintro e w102 ⟨rfl,b103⟩;have H104:=aA (H84.out.below b103)
      clear H84;have H105:=aA (H85.out.below b103)
      clear H85;have H106:=aA (H86.out.below b103)
      clear H86;have H107:=aA (H87.out.below b103)
      clear H87;have H108:=aA (H88.out.below b103)
      clear H88;have H109:=aA (H89.out.below b103)
      clear H89;have H110:=aA (H91.out.below b103)
      clear H91;have Z111:=aA (aB Z90.out b103)
      clear Z90;clear b103;go_wp2;go_ret;exact⟨rfl,Z111.out⟩
    ·go_wp2_with fail;refine(jF H36.out H37.out HR.out).mono ?_;rintro e w112 ⟨qa113,qc114,ad115,cp116,la117,lc118,rfl,b119,hq120,hl121⟩;have H122:=aA (H36.out.below b119)
     clear H36;have H123:=aA (H37.out.below b119)
     clear H37;have H124:=aA (H38.out.below b119)
     clear H38;have Z125:=aA (aB Z39.out b119)
     clear Z39;have H126:Hid (RL w112 la117 lc118 S.r):=hl121
     clear hl121;have H127:Hid (fZ w112 qa113 n qc114 ad115 (lN S.q) cp116 (fN S.q)):=hq120
     clear hq120;clear b119;clear H127;go_wp2_with fail;refine(jF H124.out H123.out HR2.out).mono ?_;rintro e w128 ⟨qa129,qc130,ad131,cp132,la133,lc134,rfl,b135,hq136,hl137⟩;have H138:=aA (H122.out.below b135)
     clear H122;have H139:=aA (H123.out.below b135)
     clear H123;have H140:=aA (H124.out.below b135)
     clear H124;have H141:=aA (H126.out.below b135)
     clear H126;have Z142:=aA (aB Z125.out b135)
     clear Z125;have H143:Hid (RL w128 la133 lc134 S2.r):=hl137
     clear hl137;have H144:Hid (fZ w128 qa129 n qc130 ad131 (lN S2.q) cp132 (fN S2.q)):=hq136
     clear hq136;clear b135;clear H144;go_wp2_with fail;refine(BN H138.out H140.out).mono ?_;rw[H3.out];rintro e w145 ⟨a146,c147,rfl,b148,r149⟩;have H150:=aA (H138.out.below b148)
     clear H138;have H151:=aA (H139.out.below b148)
     clear H139;have H152:=aA (H140.out.below b148)
     clear H140;have H153:=aA (H141.out.below b148)
     clear H141;have H154:=aA (H143.out.below b148)
     clear H143;have Z155:=aA (aB Z142.out b148)
     clear Z142;have H156:Hid (RL w145 a146 c147 d):=r149
     clear r149;clear b148;rcases R3 with _|S3
     ·go_wp2_with fail;refine(dH _ o _ _ _ _ n _ _ (lN L) _ (fN L) H156.out H151.out HR3.out).mono ?_;rw[show nZ none=false from rfl];rintro e w157 ⟨rfl,b158⟩;have H159:=aA (H150.out.below b158)
      clear H150;have H160:=aA (H151.out.below b158)
      clear H151;have H161:=aA (H152.out.below b158)
      clear H152;have H162:=aA (H153.out.below b158)
      clear H153;have H163:=aA (H154.out.below b158)
      clear H154;have H164:=aA (H156.out.below b158)
      clear H156;have Z165:=aA (aB Z155.out b158)
      clear Z155;clear b158;cases o3
      ·go_wp2;go_ret;exact⟨rfl,Z165.out⟩
      ·go_wp2;go_ret;exact⟨rfl,Z165.out⟩
     ·cases o3
      ·obtain⟨gg,hgg⟩:∃b,nZ (some S3)=b:=⟨_,rfl⟩
       have HGG:=aA (hgg);clear hgg;go_wp2_with fail;refine(dH _ o _ _ _ _ n _ _ (lN L) _ (fN L) H156.out H151.out HR3.out).mono ?_;rw[HGG.out];rintro e w166 ⟨rfl,b167⟩;have H168:=aA (H150.out.below b167)
       clear H150;have H169:=aA (H151.out.below b167)
       clear H151;have H170:=aA (H152.out.below b167)
       clear H152;have H171:=aA (H153.out.below b167)
       clear H153;have H172:=aA (H154.out.below b167)
       clear H154;have H173:=aA (H156.out.below b167)
       clear H156;have Z174:=aA (aB Z155.out b167)
       clear Z155;clear b167;go_wp2;go_ret;exact⟨rfl,Z174.out⟩
      ·have HLAW:=aA (DB HBAS.out HR.out HR2.out H3.out HR3.out);obtain⟨gg,hgg⟩:∃b,sq S.r S2.r=b:=⟨_,rfl⟩
       have HGG:=aA (hgg);have HGI3:=aA (HLAW.out.trans hgg)
       clear hgg;go_wp2_with fail;refine(dH _ o _ _ _ _ n _ _ (lN L) _ (fN L) H156.out H151.out HR3.out).mono ?_;rw[HGI3.out];rintro e w175 ⟨rfl,b176⟩;have H177:=aA (H150.out.below b176)
       clear H150;have H178:=aA (H151.out.below b176)
       clear H151;have H179:=aA (H152.out.below b176)
       clear H152;have H180:=aA (H153.out.below b176)
       clear H153;have H181:=aA (H154.out.below b176)
       clear H154;have H182:=aA (H156.out.below b176)
       clear H156;have Z183:=aA (aB Z155.out b176)
       clear Z155;clear b176;go_wp2_with fail;refine(ZF H180.out H181.out).mono ?_;rw[HGG.out];rintro e w184 ⟨rfl,b185⟩;have H186:=aA (H177.out.below b185)
       clear H177;have H187:=aA (H178.out.below b185)
       clear H178;have H188:=aA (H179.out.below b185)
       clear H179;have H189:=aA (H180.out.below b185)
       clear H180;have H190:=aA (H181.out.below b185)
       clear H181;have H191:=aA (H182.out.below b185)
       clear H182;have Z192:=aA (aB Z183.out b185)
       clear Z183;clear b185;have hgb:(gg==gg)=true:=by simp
       go_wp2;go_ret;exact⟨rfl,Z192.out⟩
  ·have HGI:=aA (vA hr0);have hq0:((S.r.length:Int)==0)=false:=beq_eq_false_iff_ne.2 (fun e=>hr0 (List.length_eq_zero_iff.1 (by omega)))
   clear hr0;go_wp2_with fail;refine(dH _ o _ _ _ _ n _ _ (lN L) _ (fN L) H1.out H2.out HR.out).mono ?_;rw[HGI.out];rintro e w193 ⟨rfl,b194⟩;have H195:=aA (H1.out.below b194)
   clear H1;have H196:=aA (H2.out.below b194)
   clear H2;have H197:=aA (HQ0.out.below b194)
   clear HQ0;have Z198:=aA (aB Z3.out b194)
   clear Z3;clear b194;go_wp2_with fail;refine(mY _ o _ _ _ _ n _ _ (lN L) _ (fN L) H195.out H196.out HR.out).mono ?_;rw[HGI.out];rintro e w199 ⟨rfl,b200⟩;have H201:=aA (H195.out.below b200)
   clear H195;have H202:=aA (H196.out.below b200)
   clear H196;have H203:=aA (H197.out.below b200)
   clear H197;have Z204:=aA (aB Z198.out b200)
   clear Z198;clear b200;go_wp2_with fail;refine(tF _ o _ n _ _ _ L H202.out).mono ?_;rw[HGK.out];rintro e w205 ⟨rfl,b206⟩;have H207:=aA (H201.out.below b206)
   clear H201;have H208:=aA (H202.out.below b206)
   clear H202;have H209:=aA (H203.out.below b206)
   clear H203;have Z210:=aA (aB Z204.out b206)
   clear Z204;clear b206;cases gk
   ·go_wp2_with fail;refine(eC _).mono ?_;rintro e w211 ⟨rfl,b212⟩;have H213:=aA (H207.out.below b212)
    clear H207;have H214:=aA (H208.out.below b212)
    clear H208;have H215:=aA (H209.out.below b212)
    clear H209;have Z216:=aA (aB Z210.out b212)
    clear Z210;clear b212;go_wp2;go_ret;exact⟨rfl,Z216.out⟩
   ·obtain⟨hBas,ho3,hlst⟩:=sU HGK.out;have HBAS:=aA (hBas)
    clear hBas ho3 hlst;obtain⟨R2,hR2⟩:∃R,aP o q n (lN L) (fN L)=R:=⟨_,rfl⟩
    have HR2:=aA (hR2);clear hR2;obtain⟨d,o3,h3⟩:∃Q q9,xK p q=(Q,q9):=⟨_,_,rfl⟩
    have H3:=aA (h3);clear h3;obtain⟨R3,hR3⟩:∃R,aP o d n (lN L) (fN L)=R:=⟨_,rfl⟩
    have HR3:=aA (hR3);clear hR3;rcases R2 with _|S2
    ·go_wp2_with fail;refine(jF H207.out H208.out HR.out).mono ?_;rintro e w217 ⟨qa218,qc219,ad220,cp221,la222,lc223,rfl,b224,hq225,hl226⟩;have H227:=aA (H207.out.below b224)
     clear H207;have H228:=aA (H208.out.below b224)
     clear H208;have H229:=aA (H209.out.below b224)
     clear H209;have Z230:=aA (aB Z210.out b224)
     clear Z210;have H231:Hid (RL w217 la222 lc223 S.r):=hl226
     clear hl226;have H232:Hid (fZ w217 qa218 n qc219 ad220 (lN S.q) cp221 (fN S.q)):=hq225
     clear hq225;clear b224;clear H232;go_wp2_with fail;refine(AU H229.out H228.out HR2.out).mono ?_;rintro e w233 ⟨qa234,qc235,ad236,cp237,la238,lc239,rfl,b240,hq241,hl242⟩;have H243:=aA (H227.out.below b240)
     clear H227;have H244:=aA (H228.out.below b240)
     clear H228;have H245:=aA (H229.out.below b240)
     clear H229;have H246:=aA (H231.out.below b240)
     clear H231;have Z247:=aA (aB Z230.out b240)
     clear Z230;have H248:Hid (RL w233 la238 lc239 []):=hl242
     clear hl242;have H249:Hid (fZ w233 qa234 0 qc235 ad236 (lN (fun _=>[])) cp237 (fN (fun _=>[]))):=hq241
     clear hq241;clear b240;go_wp2_with fail;refine(BN H243.out H245.out).mono ?_;rw[H3.out];rintro e w250 ⟨a251,c252,rfl,b253,r254⟩;have H255:=aA (H243.out.below b253)
     clear H243;have H256:=aA (H244.out.below b253)
     clear H244;have H257:=aA (H245.out.below b253)
     clear H245;have H258:=aA (H246.out.below b253)
     clear H246;have H259:=aA (H248.out.below b253)
     clear H248;have H260:=aA (H249.out.below b253)
     clear H249;have Z261:=aA (aB Z247.out b253)
     clear Z247;have H262:Hid (RL w250 a251 c252 d):=r254
     clear r254;clear b253;rcases R3 with _|S3
     ·go_wp2_with fail;refine(dH _ o _ _ _ _ n _ _ (lN L) _ (fN L) H262.out H256.out HR3.out).mono ?_;rw[show nZ none=false from rfl];rintro e w263 ⟨rfl,b264⟩;have H265:=aA (H255.out.below b264)
      clear H255;have H266:=aA (H256.out.below b264)
      clear H256;have H267:=aA (H257.out.below b264)
      clear H257;have H268:=aA (H258.out.below b264)
      clear H258;have H269:=aA (H259.out.below b264)
      clear H259;have H270:=aA (H260.out.below b264)
      clear H260;have H271:=aA (H262.out.below b264)
      clear H262;have Z272:=aA (aB Z261.out b264)
      clear Z261;clear b264;go_wp2;go_ret;exact⟨rfl,Z272.out⟩
     ·obtain⟨gg,hgg⟩:∃b,nZ (some S3)=b:=⟨_,rfl⟩
      have HGG:=aA (hgg);clear hgg;go_wp2_with fail;refine(dH _ o _ _ _ _ n _ _ (lN L) _ (fN L) H262.out H256.out HR3.out).mono ?_;rw[HGG.out];rintro e w273 ⟨rfl,b274⟩;have H275:=aA (H255.out.below b274)
      clear H255;have H276:=aA (H256.out.below b274)
      clear H256;have H277:=aA (H257.out.below b274)
      clear H257;have H278:=aA (H258.out.below b274)
      clear H258;have H279:=aA (H259.out.below b274)
      clear H259;have H280:=aA (H260.out.below b274)
      clear H260;have H281:=aA (H262.out.below b274)
      clear H262;have Z282:=aA (aB Z261.out b274)
      clear Z261;clear b274;go_wp2;go_ret;exact⟨rfl,Z282.out⟩
    ·go_wp2_with fail;refine(jF H207.out H208.out HR.out).mono ?_;rintro e w283 ⟨qa284,qc285,ad286,cp287,la288,lc289,rfl,b290,hq291,hl292⟩;have H293:=aA (H207.out.below b290)
     clear H207;have H294:=aA (H208.out.below b290)
     clear H208;have H295:=aA (H209.out.below b290)
     clear H209;have Z296:=aA (aB Z210.out b290)
     clear Z210;have H297:Hid (RL w283 la288 lc289 S.r):=hl292
     clear hl292;have H298:Hid (fZ w283 qa284 n qc285 ad286 (lN S.q) cp287 (fN S.q)):=hq291
     clear hq291;clear b290;clear H298;go_wp2_with fail;refine(jF H295.out H294.out HR2.out).mono ?_;rintro e w299 ⟨qa300,qc301,ad302,cp303,la304,lc305,rfl,b306,hq307,hl308⟩;have H309:=aA (H293.out.below b306)
     clear H293;have H310:=aA (H294.out.below b306)
     clear H294;have H311:=aA (H295.out.below b306)
     clear H295;have H312:=aA (H297.out.below b306)
     clear H297;have Z313:=aA (aB Z296.out b306)
     clear Z296;have H314:Hid (RL w299 la304 lc305 S2.r):=hl308
     clear hl308;have H315:Hid (fZ w299 qa300 n qc301 ad302 (lN S2.q) cp303 (fN S2.q)):=hq307
     clear hq307;clear b306;clear H315;go_wp2_with fail;refine(BN H309.out H311.out).mono ?_;rw[H3.out];rintro e w316 ⟨a317,c318,rfl,b319,r320⟩;have H321:=aA (H309.out.below b319)
     clear H309;have H322:=aA (H310.out.below b319)
     clear H310;have H323:=aA (H311.out.below b319)
     clear H311;have H324:=aA (H312.out.below b319)
     clear H312;have H325:=aA (H314.out.below b319)
     clear H314;have Z326:=aA (aB Z313.out b319)
     clear Z313;have H327:Hid (RL w316 a317 c318 d):=r320
     clear r320;clear b319;rcases R3 with _|S3
     ·go_wp2_with fail;refine(dH _ o _ _ _ _ n _ _ (lN L) _ (fN L) H327.out H322.out HR3.out).mono ?_;rw[show nZ none=false from rfl];rintro e w328 ⟨rfl,b329⟩;have H330:=aA (H321.out.below b329)
      clear H321;have H331:=aA (H322.out.below b329)
      clear H322;have H332:=aA (H323.out.below b329)
      clear H323;have H333:=aA (H324.out.below b329)
      clear H324;have H334:=aA (H325.out.below b329)
      clear H325;have H335:=aA (H327.out.below b329)
      clear H327;have Z336:=aA (aB Z326.out b329)
      clear Z326;clear b329;cases o3
      ·go_wp2;go_ret;exact⟨rfl,Z336.out⟩
      ·go_wp2;go_ret;exact⟨rfl,Z336.out⟩
     ·cases o3
      ·obtain⟨gg,hgg⟩:∃b,nZ (some S3)=b:=⟨_,rfl⟩
       have HGG:=aA (hgg);clear hgg;go_wp2_with fail;refine(dH _ o _ _ _ _ n _ _ (lN L) _ (fN L) H327.out H322.out HR3.out).mono ?_;rw[HGG.out];rintro e w337 ⟨rfl,b338⟩;have H339:=aA (H321.out.below b338)
       clear H321;have H340:=aA (H322.out.below b338)
       clear H322;have H341:=aA (H323.out.below b338)
       clear H323;have H342:=aA (H324.out.below b338)
       clear H324;have H343:=aA (H325.out.below b338)
       clear H325;have H344:=aA (H327.out.below b338)
       clear H327;have Z345:=aA (aB Z326.out b338)
       clear Z326;clear b338;go_wp2;go_ret;exact⟨rfl,Z345.out⟩
      ·have HLAW:=aA (DB HBAS.out HR.out HR2.out H3.out HR3.out);obtain⟨gg,hgg⟩:∃b,sq S.r S2.r=b:=⟨_,rfl⟩
       have HGG:=aA (hgg);have HGI3:=aA (HLAW.out.trans hgg)
       clear hgg;go_wp2_with fail;refine(dH _ o _ _ _ _ n _ _ (lN L) _ (fN L) H327.out H322.out HR3.out).mono ?_;rw[HGI3.out];rintro e w346 ⟨rfl,b347⟩;have H348:=aA (H321.out.below b347)
       clear H321;have H349:=aA (H322.out.below b347)
       clear H322;have H350:=aA (H323.out.below b347)
       clear H323;have H351:=aA (H324.out.below b347)
       clear H324;have H352:=aA (H325.out.below b347)
       clear H325;have H353:=aA (H327.out.below b347)
       clear H327;have Z354:=aA (aB Z326.out b347)
       clear Z326;clear b347;go_wp2_with fail;refine(ZF H351.out H352.out).mono ?_;rw[HGG.out];rintro e w355 ⟨rfl,b356⟩;have H357:=aA (H348.out.below b356)
       clear H348;have H358:=aA (H349.out.below b356)
       clear H349;have H359:=aA (H350.out.below b356)
       clear H350;have H360:=aA (H351.out.below b356)
       clear H351;have H361:=aA (H352.out.below b356)
       clear H352;have H362:=aA (H353.out.below b356)
       clear H353;have Z363:=aA (aB Z354.out b356)
       clear Z354;clear b356;have hgb:(gg==gg)=true:=by simp
       go_wp2;go_ret;exact⟨rfl,Z363.out⟩
end Go.Proofs.YtncffcaabnjioaaGreat
