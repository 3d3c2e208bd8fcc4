/- ImageTells' great test: the order of its operations. -/
import Derived.Test.YtniihmafbeplaaaDoorQLiA
namespace Go.Proofs.YtniihmafbeplaaaDoor
open Go.RowKit Go.Shelf
set_option linter.unusedVariables false
set_option linter.unusedSimpArgs false

noncomputable def tellsOps : Array Oper := regL Tryd.f3 3
theorem tells_seg0 : lexSeg .any tellsOps [(0, false), (1, false), (2, false), (3, false), (4, false), (5, false), (6, false), (7, false), (8, false), (9, false), (10, false), (11, false), (12, false), (13, false), (14, false), (15, false)] (preL 96 0) = some (preL 96 16) := by kernel_rfl
theorem tells_seg1 : lexSeg .any tellsOps [(16, false), (17, false), (18, false), (19, false), (20, false), (21, false), (22, false), (23, false), (24, false), (25, false), (26, false), (27, false), (28, false), (29, false), (30, false), (31, false)] (preL 96 16) = some (preL 96 32) := by kernel_rfl
theorem tells_seg2 : lexSeg .any tellsOps [(32, false), (33, false), (34, false), (35, false), (36, false), (37, false), (38, false), (39, false), (40, false), (41, false), (42, false), (43, false), (44, false), (45, false), (46, false), (47, false)] (preL 96 32) = some (preL 96 48) := by kernel_rfl
theorem tells_seg3 : lexSeg .any tellsOps [(48, false), (49, false), (50, false), (51, false), (52, false), (53, false), (54, false), (55, false), (56, false), (57, false), (58, false), (59, false), (60, false), (61, false), (62, false), (63, false)] (preL 96 48) = some (preL 96 64) := by kernel_rfl
theorem tells_seg4 : lexSeg .any tellsOps [(64, false), (65, false), (66, false), (67, false), (68, false), (69, false), (70, false), (71, false), (72, false), (73, false), (74, false), (75, false), (76, false), (77, false), (78, false), (79, false)] (preL 96 64) = some (preL 96 80) := by kernel_rfl
theorem tells_seg5 : lexSeg .any tellsOps [(80, false), (81, false), (82, false), (83, false), (84, false), (85, false), (86, false), (87, false), (88, false), (89, false), (90, false), (91, false), (92, false), (93, false), (94, false), (95, false)] (preL 96 80) = some (preL 96 96) := by kernel_rfl
theorem tells_end : lexMix .any tellsOps [] (preL 96 96) = true := by kernel_rfl
theorem tells_lex : lexMix .any tellsOps [(0, false), (1, false), (2, false), (3, false), (4, false), (5, false), (6, false), (7, false), (8, false), (9, false), (10, false), (11, false), (12, false), (13, false), (14, false), (15, false), (16, false), (17, false), (18, false), (19, false), (20, false), (21, false), (22, false), (23, false), (24, false), (25, false), (26, false), (27, false), (28, false), (29, false), (30, false), (31, false), (32, false), (33, false), (34, false), (35, false), (36, false), (37, false), (38, false), (39, false), (40, false), (41, false), (42, false), (43, false), (44, false), (45, false), (46, false), (47, false), (48, false), (49, false), (50, false), (51, false), (52, false), (53, false), (54, false), (55, false), (56, false), (57, false), (58, false), (59, false), (60, false), (61, false), (62, false), (63, false), (64, false), (65, false), (66, false), (67, false), (68, false), (69, false), (70, false), (71, false), (72, false), (73, false), (74, false), (75, false), (76, false), (77, false), (78, false), (79, false), (80, false), (81, false), (82, false), (83, false), (84, false), (85, false), (86, false), (87, false), (88, false), (89, false), (90, false), (91, false), (92, false), (93, false), (94, false), (95, false)] (Array.replicate tellsOps.size false) = true := by
  rw [show Array.replicate tellsOps.size false = preL 96 0 by kernel_rfl]
  exact lexMix_seg _ _ _ tells_seg0 (lexMix_seg _ _ _ tells_seg1 (lexMix_seg _ _ _ tells_seg2 (lexMix_seg _ _ _ tells_seg3 (lexMix_seg _ _ _ tells_seg4 (lexMix_seg _ _ _ tells_seg5 (tells_end))))))
theorem tells_sel : Region.noSelect tellsOps = true := by kernel_rfl
theorem tells_len : 96 = tellsOps.size := by kernel_rfl

end Go.Proofs.YtniihmafbeplaaaDoor
