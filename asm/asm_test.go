package asm

import (
	"fmt"
	"math/big"
	"regexp"
	"slices"
	"strings"
	"testing"

	"mimesis/api"
	"mimesis/inst"
)

// chapterTable has the pieces of each instruction's text, by its Op from Lui on, blanks between
// them. A register's is its field's name; of an Imm it is the letter of what it may be: see kinds.
const chapterTable = `
lui rd , U
auipc rd , U
jal rd , J
jalr rd , I ( rs1 )
beq rs1 , rs2 , B
bne rs1 , rs2 , B
blt rs1 , rs2 , B
bge rs1 , rs2 , B
bltu rs1 , rs2 , B
bgeu rs1 , rs2 , B
lb rd , I ( rs1 )
lh rd , I ( rs1 )
lw rd , I ( rs1 )
lbu rd , I ( rs1 )
lhu rd , I ( rs1 )
sb rs2 , I ( rs1 )
sh rs2 , I ( rs1 )
sw rs2 , I ( rs1 )
addi rd , rs1 , I
slti rd , rs1 , I
sltiu rd , rs1 , I
xori rd , rs1 , I
ori rd , rs1 , I
andi rd , rs1 , I
slli rd , rs1 , N
srli rd , rs1 , N
srai rd , rs1 , N
add rd , rs1 , rs2
sub rd , rs1 , rs2
sll rd , rs1 , rs2
slt rd , rs1 , rs2
sltu rd , rs1 , rs2
xor rd , rs1 , rs2
srl rd , rs1 , rs2
sra rd , rs1 , rs2
or rd , rs1 , rs2
and rd , rs1 , rs2
fence rd , rs1 , I
fence.i rd , rs1 , I
ecall
ebreak
csrrw rd , C , rs1
csrrs rd , C , rs1
csrrc rd , C , rs1
csrrwi rd , C , N
csrrsi rd , C , N
csrrci rd , C , N
mret
wfi
mul rd , rs1 , rs2
mulh rd , rs1 , rs2
mulhsu rd , rs1 , rs2
mulhu rd , rs1 , rs2
div rd , rs1 , rs2
divu rd , rs1 , rs2
rem rd , rs1 , rs2
remu rd , rs1 , rs2
`

// kind is what a field of that name may be, and what it may not though it is a number.
type kind struct {
	edges, wrong []int
	why          api.Errno // of the wrong ones
}

var kinds = map[string]kind{
	"rd":  {[]int{0, 1, 9, 10, 19, 20, 30, 31}, nil, api.OK},
	"rs1": {[]int{0, 1, 9, 10, 29, 31}, nil, api.OK},
	"rs2": {[]int{0, 2, 9, 10, 31}, nil, api.OK},
	"C":   {[]int{0, 1, 10, 768, 2048, 4094, 4095}, []int{4096, 4097, 65536, -1, -4096, 1<<32 - 1, 1 << 31, -1 << 31}, api.ErrOp},
	"U":   {[]int{0, 1, 9, 10, 1 << 19, 1<<19 - 1, 1<<20 - 2, 1<<20 - 1}, []int{1 << 20, 1<<20 + 1, 1 << 21, -1, -2, -1 << 20, 1<<32 - 1, 1 << 31, -1 << 31}, api.ErrForm},
	"J":   {[]int{0, 2, -2, 10, -10, 1 << 19, 2 - 1<<20, -1 << 20, 1<<20 - 2}, []int{1, -1, 1 << 20, 1<<20 - 1, -1<<20 - 1, -1<<20 - 2, 1<<32 - 1, 1 << 31, -1 << 31}, api.ErrOp},
	"I":   {[]int{0, 1, -1, 10, -10, -2047, -2048, 2047}, []int{2048, -2049, 4095, 4096, 1 << 31, -1 << 31}, api.ErrOp},
	"B":   {[]int{0, 2, -2, 10, -10, -4094, -4096, 4094}, []int{1, -1, 4095, 4096, -4097, -4098, 1<<32 - 1, 1 << 31, -1 << 31}, api.ErrOp},
	"N":   {[]int{0, 1, 9, 10, 16, 30, 31}, []int{32, 33, -1, 1024, 1<<32 - 1, 1 << 31, -1 << 31}, api.ErrOp},
}

// row is an instruction of the table: its name, and what is behind it.
type row struct {
	op    int
	name  string
	asked []string
}

func chapterRows(t *testing.T) []row {
	t.Helper()
	var out []row
	for n, text := range strings.Split(strings.TrimSpace(chapterTable), "\n") {
		f := strings.Fields(text)
		out = append(out, row{n + 1, f[0], f[1:]})
	}
	if len(out) != api.Ops-1 {
		t.Fatalf("the test has %d rows; want %d", len(out), api.Ops-1)
	}
	return out
}

func isRegisterField(asked string) bool {
	return strings.HasPrefix(asked, "r")
}

func isNumberField(asked string) bool {
	return strings.Contains("CUJIBN", asked)
}

// texts is the row's pieces behind its name, with the fields' numbers written in the plainest way.
func (r row) texts(fields map[string]int) []string {
	var out []string
	for _, a := range r.asked {
		switch {
		case isRegisterField(a):
			out = append(out, fmt.Sprint("x", fields[a]))
		case isNumberField(a):
			out = append(out, fmt.Sprint(fields[a]))
		default:
			out = append(out, a)
		}
	}
	return out
}

// instr is the row's instruction with these fields.
func (r row) instr(fields map[string]int) api.Instr {
	i := api.Instr{Op: r.op}
	for _, a := range r.asked {
		n := fields[a]
		switch a {
		case "rd":
			i.Rd = n
		case "rs1":
			i.Rs1 = n
		case "rs2":
			i.Rs2 = n
		case "C":
			i.Csr = n
		case "U":
			i.Imm = uint32(n) << 12
		case "J", "I", "B", "N":
			i.Imm = uint32(n)
		}
	}
	return i
}

// edges are the row's fields, all edges against each other.
func (r row) edges() []map[string]int {
	out := []map[string]int{{}}
	for _, a := range r.asked {
		if len(kinds[a].edges) == 0 {
			continue
		}
		var next []map[string]int
		for _, fields := range out {
			for _, n := range kinds[a].edges {
				f := map[string]int{a: n}
				for k, v := range fields {
					f[k] = v
				}
				next = append(next, f)
			}
		}
		out = next
	}
	return out
}

// middle is one instruction of the row whose fields all differ.
func (r row) middle() map[string]int {
	return map[string]int{"rd": 5, "rs1": 17, "rs2": 30, "C": 833, "U": 74565, "J": -20, "I": -7, "B": 24, "N": 11}
}

func (r row) line(pieces []string) string {
	return r.name + " " + strings.Join(pieces, " ")
}

// tight puts the pieces together with as few blanks as there may be.
func (r row) tight(pieces []string) string {
	if len(pieces) == 0 {
		return r.name
	}
	return r.name + " " + strings.Join(pieces, "")
}

// waysToWrite are the texts of one number: below 2^31 and not, with a sign and without, in both bases.
func waysToWrite(n int) []string {
	w := uint32(n)
	out := []string{fmt.Sprint(w), fmt.Sprintf("%010d", w), fmt.Sprintf("0x%x", w), fmt.Sprintf("0x%X", w), fmt.Sprintf("0x%08x", w)}
	if s := int64(int32(w)); s <= 0 {
		out = append(out, fmt.Sprint("-", -s), fmt.Sprintf("-%010d", -s), fmt.Sprintf("-0x%x", -s), fmt.Sprintf("-0x%08X", -s))
	}
	return out
}

func wantLine(t *testing.T, s string, want api.Instr) {
	t.Helper()
	if i, err := Line(s); err != api.OK || i != want {
		t.Fatalf("Line(%q) = %+v, %v; want %+v", s, i, err, want)
	}
}

func wantNoLine(t *testing.T, s string, want api.Errno) {
	t.Helper()
	if i, err := Line(s); err != want || i != (api.Instr{}) {
		t.Fatalf("Line(%q) = %+v, %v; want none, %v", s, i, err, want)
	}
}

func wantProgram(t *testing.T, s string, want ...uint32) {
	t.Helper()
	if l, n, err := Program(s); err != api.OK || n != 0 || !slices.Equal(l, want) {
		t.Fatalf("Program(%.200q) = %x, %d, %v; want %x", s, l, n, err, want)
	}
}

func wantNoProgram(t *testing.T, s string, line int, want api.Errno) {
	t.Helper()
	if l, n, err := Program(s); err != want || n != line || len(l) != 0 {
		t.Fatalf("Program(%.200q) = %x, %d, %v; want none, %d, %v", s, l, n, err, line, want)
	}
}

// mixed answers n words in a fixed row without a pattern that the forms share.
func mixed(n int) []uint32 {
	var out []uint32
	x := uint64(1)
	for range n {
		x = x*6364136223846793005 + 1442695040888963407
		out = append(out, uint32(x>>32))
	}
	return out
}

// P6.1
func TestPiecesNamed(t *testing.T) {
	for _, c := range []struct {
		line string
		want []string
	}{
		{"", nil},
		{" ", nil},
		{"\t", nil},
		{" \t \t", nil},
		{"#", nil},
		{" # ", nil},
		{"##", nil},
		{"#,():a", nil},
		{",", []string{","}},
		{"(", []string{"("}},
		{")", []string{")"}},
		{":", []string{":"}},
		{",():", []string{",", "(", ")", ":"}},
		{",,", []string{",", ","}},
		{"a", []string{"a"}},
		{"z", []string{"z"}},
		{"A", []string{"A"}},
		{"Z", []string{"Z"}},
		{"0", []string{"0"}},
		{"9", []string{"9"}},
		{"_", []string{"_"}},
		{".", []string{"."}},
		{"-", []string{"-"}},
		{"--", []string{"--"}},
		{"azAZ09_.-", []string{"azAZ09_.-"}},
		{"-._90ZAza", []string{"-._90ZAza"}},
		{"a b", []string{"a", "b"}},
		{"a\tb", []string{"a", "b"}},
		{"a  \t b", []string{"a", "b"}},
		{" a ", []string{"a"}},
		{"a,b", []string{"a", ",", "b"}},
		{"a , b", []string{"a", ",", "b"}},
		{"a-b", []string{"a-b"}},
		{"a - b", []string{"a", "-", "b"}},
		{"lw x1,-4(x2)", []string{"lw", "x1", ",", "-4", "(", "x2", ")"}},
		{"lw x1 , -4 ( x2 )", []string{"lw", "x1", ",", "-4", "(", "x2", ")"}},
		{"loop:fence.i", []string{"loop", ":", "fence.i"}},
		{"a#b", []string{"a"}},
		{"a #b", []string{"a"}},
		{"a, # b # c", []string{"a", ","}},
		{"a#!", []string{"a"}},
		{"a#\xff\x80\x00", []string{"a"}},
		{"#é\n", nil},
		{"a # b\nc", []string{"a"}},
		{".word 0xdeadBEEF", []string{".word", "0xdeadBEEF"}},
	} {
		if got, err := Pieces(c.line); err != api.OK || !slices.Equal(got, c.want) {
			t.Errorf("Pieces(%q) = %q, %v; want %q", c.line, got, err, c.want)
		}
	}
}

// P6.1
func TestPiecesOfEverySign(t *testing.T) {
	const parts = "abcdefghijklmnopqrstuvwxyzABCDEFGHIJKLMNOPQRSTUVWXYZ0123456789_.-"
	for c := range 256 {
		sign := string([]byte{byte(c)})
		wantAlone, wantBetween, wantErr := []string(nil), []string{"a", "b"}, api.OK
		switch {
		case sign == " " || sign == "\t":
		case sign == "#":
			wantBetween = []string{"a"}
		case strings.Contains(",():", sign):
			wantAlone, wantBetween = []string{sign}, []string{"a", sign, "b"}
		case strings.Contains(parts, sign):
			wantAlone, wantBetween = []string{sign}, []string{"a" + sign + "b"}
		default:
			wantBetween, wantErr = nil, api.ErrForm
		}
		if got, err := Pieces(sign); err != wantErr || !slices.Equal(got, wantAlone) {
			t.Errorf("Pieces(%q) = %q, %v; want %q, %v", sign, got, err, wantAlone, wantErr)
		}
		if got, err := Pieces("a" + sign + "b"); err != wantErr || !slices.Equal(got, wantBetween) {
			t.Errorf("Pieces(%q) = %q, %v; want %q, %v", "a"+sign+"b", got, err, wantBetween, wantErr)
		}
		if got, err := Pieces("a#" + sign); err != api.OK || !slices.Equal(got, []string{"a"}) {
			t.Errorf("Pieces(%q) = %q, %v; want a alone", "a#"+sign, got, err)
		}
	}
}

var (
	pieceForm  = regexp.MustCompile(`[,():]|[a-zA-Z0-9_.-]+`)
	lineForm   = regexp.MustCompile(`^[,():a-zA-Z0-9_.\- \t]*$`)
	numberForm = regexp.MustCompile(`^-?([0-9]{1,10}|0x[0-9a-fA-F]{1,8})$`)
)

// every calls f with every text of up to n of the signs.
func every(signs string, n int, f func(string)) {
	f("")
	if n == 0 {
		return
	}
	for k := range len(signs) {
		every(signs, n-1, func(s string) { f(signs[k:k+1] + s) })
	}
}

// P6.1
func TestPiecesOfEveryShortLine(t *testing.T) {
	every("aZ0_.-,(): \t#!\n\x80", 5, func(s string) {
		told := s
		if k := strings.IndexByte(s, '#'); k >= 0 {
			told = s[:k]
		}
		var want []string
		wantErr := api.ErrForm
		if lineForm.MatchString(told) {
			want, wantErr = pieceForm.FindAllString(told, -1), api.OK
		}
		if got, err := Pieces(s); err != wantErr || !slices.Equal(got, want) {
			t.Fatalf("Pieces(%q) = %q, %v; want %q, %v", s, got, err, want, wantErr)
		}
	})
}

// P6.1: there is no bound on a line's length.
func TestPiecesOfALongLine(t *testing.T) {
	long := strings.Repeat("a", api.MaxText+1)
	if got, err := Pieces(long); err != api.OK || !slices.Equal(got, []string{long}) {
		t.Errorf("Pieces of %d letters: %d pieces, %v", len(long), len(got), err)
	}
	if got, err := Pieces(strings.Repeat(", ", api.MaxText)); err != api.OK || len(got) != api.MaxText {
		t.Errorf("Pieces of %d commas: %d pieces, %v", api.MaxText, len(got), err)
	}
	wantLine(t, "mret"+strings.Repeat(" ", api.MaxText), api.Instr{Op: api.Mret})
}

// P6.1
func TestNumberNamed(t *testing.T) {
	for _, c := range []struct {
		s    string
		want uint32
	}{
		{"0", 0},
		{"-0", 0},
		{"1", 1},
		{"-1", 0xffffffff},
		{"9", 9},
		{"10", 10},
		{"00", 0},
		{"007", 7},
		{"-007", 0xfffffff9},
		{"0000000000", 0},
		{"0000000009", 9},
		{"-0000000009", 0xfffffff7},
		{"2147483647", 0x7fffffff},
		{"2147483648", 0x80000000},
		{"-2147483647", 0x80000001},
		{"-2147483648", 0x80000000},
		{"4294967294", 0xfffffffe},
		{"4294967295", 0xffffffff},
		{"1234567890", 0x499602d2},
		{"-1234567890", 0xb669fd2e},
		{"0x0", 0},
		{"-0x0", 0},
		{"0xf", 15},
		{"0xF", 15},
		{"0x0000000f", 15},
		{"0xdeadBEEF", 0xdeadbeef},
		{"0xffffffff", 0xffffffff},
		{"0xFFFFFFFF", 0xffffffff},
		{"0x80000000", 0x80000000},
		{"-0x1", 0xffffffff},
		{"-0x10", 0xfffffff0},
		{"-0x7fffffff", 0x80000001},
		{"-0x80000000", 0x80000000},
		{"0x12345678", 0x12345678},
		{"0x9abcdefA", 0x9abcdefa},
	} {
		if got, err := Number(c.s); err != api.OK || got != c.want {
			t.Errorf("Number(%q) = %x, %v; want %x", c.s, got, err, c.want)
		}
	}
}

// P6.1
func TestNoNumber(t *testing.T) {
	for _, s := range []string{
		"", "-", "--", "--1", "+", "+1", "-+1", "+0x1", "0x", "-0x", "x", "x1", "0X1", "0XF", "0xg", "0x-1", "0x 1", "0x+1", "0x1_0",
		"00x1", "10x1", "0x0x1", "0b1", "0o7", "1_0", "a", "f", "1a", "a1", "1-", "1-1", "1.0", ".5", "1e3", "1,", "(1)", "_1",
		" 1", "1 ", "- 1", "\t1", "1\n", "1#", "#",
		"4294967296", "4294967297", "9999999999", "-2147483649", "-4294967295", "-4294967296", "-9999999999",
		"00000000000", "00000000001", "-00000000001", "10000000000", "18446744073709551617", "4294967296000000000000000000001",
		"0x000000000", "0x000000001", "0x100000000", "-0x000000001", "-0x80000001", "-0xffffffff", "0xfffffffff",
		"\x80", "1\xff", "１", "١", "0x１", "\x00", "1\x00", "/", ":", "0x/", "0x:", "0x@", "0xG", "0x`", "label", ".word", "mret",
	} {
		if got, err := Number(s); err != api.ErrForm || got != 0 {
			t.Errorf("Number(%q) = %x, %v; want none, ErrForm", s, got, err)
		}
	}
}

// chapterNumber is the chapter's rule by the library's numbers of any size.
func chapterNumber(s string) (uint32, api.Errno) {
	if !numberForm.MatchString(s) {
		return 0, api.ErrForm
	}
	digits, below := strings.CutPrefix(s, "-")
	base := 10
	if hex, is := strings.CutPrefix(digits, "0x"); is {
		digits, base = hex, 16
	}
	n, _ := new(big.Int).SetString(digits, base)
	if below {
		n.Neg(n)
	}
	if n.Cmp(big.NewInt(-1<<31)) < 0 || n.Cmp(big.NewInt(1<<32-1)) > 0 {
		return 0, api.ErrForm
	}
	return uint32(n.Int64()), api.OK
}

func likeTheChapter(t *testing.T, s string) {
	t.Helper()
	want, wantErr := chapterNumber(s)
	if got, err := Number(s); err != wantErr || got != want {
		t.Fatalf("Number(%q) = %x, %v; want %x, %v", s, got, err, want, wantErr)
	}
}

// P6.1
func TestNumberOfEveryShortText(t *testing.T) {
	every("019afgAFGxX-+_ ", 5, func(s string) { likeTheChapter(t, s) })
	every("01-", 12, func(s string) {
		if len(s) > 8 {
			likeTheChapter(t, s)
		}
	})
}

// P6.1
func TestNumberOfMany(t *testing.T) {
	for k, w := range mixed(20000) {
		n := int64(w) << (k % 4)
		for _, s := range []string{fmt.Sprint(n), fmt.Sprint(-n), fmt.Sprintf("0x%x", n), fmt.Sprintf("-0x%X", n), fmt.Sprintf("0x%x", n>>20), fmt.Sprint(n >> 20)} {
			likeTheChapter(t, s)
		}
	}
	for _, edge := range []int64{0, 1 << 31, 1 << 32, 1e9, 1e10} {
		for n := edge - 20; n <= edge+20; n++ {
			for _, s := range []string{fmt.Sprint(n), fmt.Sprint(-n), fmt.Sprintf("%010d", n), fmt.Sprintf("%011d", n), fmt.Sprintf("0x%x", n), fmt.Sprintf("-0x%x", n), fmt.Sprintf("0x%08x", n), fmt.Sprintf("0x%09x", n)} {
				likeTheChapter(t, s)
			}
		}
	}
}

// P6.1
func TestLineNamed(t *testing.T) {
	for _, c := range []struct {
		s    string
		want api.Instr
	}{
		{"addi x1, x0, 10", api.Instr{Op: api.Addi, Rd: 1, Imm: 10}},
		{"  addi\tx1,x0 ,0xA # ten", api.Instr{Op: api.Addi, Rd: 1, Imm: 10}},
		{"addi x1, x2, 4294967295", api.Instr{Op: api.Addi, Rd: 1, Rs1: 2, Imm: 0xffffffff}},
		{"addi x1, x2, 0xfffff800", api.Instr{Op: api.Addi, Rd: 1, Rs1: 2, Imm: 0xfffff800}},
		{"lui x31, 0xfffff", api.Instr{Op: api.Lui, Rd: 31, Imm: 0xfffff000}},
		{"lui x5, 0x100", api.Instr{Op: api.Lui, Rd: 5, Imm: 0x100000}},
		{"auipc x5, -0", api.Instr{Op: api.Auipc, Rd: 5}},
		{"jal x1, -4", api.Instr{Op: api.Jal, Rd: 1, Imm: 0xfffffffc}},
		{"jal x1, 0xfffffffc", api.Instr{Op: api.Jal, Rd: 1, Imm: 0xfffffffc}},
		{"jalr x0, 0(x1)", api.Instr{Op: api.Jalr, Rs1: 1}},
		{"lw x1,-4 ( x2 )", api.Instr{Op: api.Lw, Rd: 1, Rs1: 2, Imm: 0xfffffffc}},
		{"sw x5, 8(x2)", api.Instr{Op: api.Sw, Rs1: 2, Rs2: 5, Imm: 8}},
		{"bne x1, x2, -4", api.Instr{Op: api.Bne, Rs1: 1, Rs2: 2, Imm: 0xfffffffc}},
		{"sub x1, x2, x3", api.Instr{Op: api.Sub, Rd: 1, Rs1: 2, Rs2: 3}},
		{"srai x10, x11, 31", api.Instr{Op: api.Srai, Rd: 10, Rs1: 11, Imm: 31}},
		{"fence x0, x0, 255", api.Instr{Op: api.Fence, Imm: 255}},
		{"fence.i x1, x2, -3", api.Instr{Op: api.FenceI, Rd: 1, Rs1: 2, Imm: 0xfffffffd}},
		{"csrrw x1, 0xfff, x2", api.Instr{Op: api.Csrrw, Rd: 1, Rs1: 2, Csr: 4095}},
		{"csrrsi x1, 0x341, 0x1f", api.Instr{Op: api.Csrrsi, Rd: 1, Imm: 31, Csr: 833}},
		{"ecall", api.Instr{Op: api.Ecall}},
		{"mret#", api.Instr{Op: api.Mret}},
		{"\twfi\t", api.Instr{Op: api.Wfi}},
		{"ebreak # \xff!\n;", api.Instr{Op: api.Ebreak}},
	} {
		wantLine(t, c.s, c.want)
	}
}

// P6.1
func TestLineIsNone(t *testing.T) {
	for _, s := range []string{
		"", " ", "\t", "#", "# mret", ",", ":", "(", ")", "()", "x1", "5", "-", "_", ".",
		"loop:", "loop: mret", ": mret", "mret:", "mret :", "mret: mret", "a", "loop",
		".word 5", ".word", "word 5", "loop: .word 5",
		"jal x0, loop", "beq x1, x2, loop", "beq x1, x2, _", "bgeu x1, x2, x3", "jal x0, x1", "addi x1, x1, loop", "lui x1, loop", "lw x1, loop(x2)",
		"foo", "foo x1", "MRET", "Mret", "ADDI x1, x0, 10", "mretx", "mre", "fence.j x0, x0, 0", "fencei x0, x0, 0", "unknown",
		"mret mret", "mret,", "mret 0", "ecall x0", "wfi ()",
		"addi", "addi x1", "addi x1,", "addi x1, x0", "addi x1, x0,", "addi x1 x0 10", "addi, x1, x0, 10", "addi x1, x0, 10,", "addi x1, x0, 10, 5", "addi x1,, x0, 10",
		"addi x1, 10, x0", "addi x1, x0, x2", "addi 1, x0, 10", "addi x1, x0, - 10", "addi x1, x0, --10", "addi x1, x0, +10", "addi x1: x0: 10", "addi x1, 10(x0)",
		"add x1, x2, 3", "add x1, x2", "add x1, x2, x3, x4",
		"lw x1, x2, 4", "lw x1, (x2)", "lw x1, 4", "lw x1, 4(x2", "lw x1, 4 x2)", "lw x1, 4)x2(", "lw x1, 4(2)", "lw x1, x2(4)", "lw x1 4(x2)", "lw x1, 4(x2))", "lw x1, 4,(x2)", "sw 8(x2), x5",
		"lui x1, 1048576", "lui x1, 0x100000", "lui x1, -1", "auipc x1, 0xfffff000", "auipc x1, 4294967295", "auipc x1, -2147483648", "lui x1", "lui 5",
		"csrrw x1, x2, 5", "csrrw x1, x2, x3", "csrrwi x1, 5, x2",
		"addi x1, x0, 4294967296", "addi x1, x0, 0x", "addi x1, x0, 00000000001", "addi x1, x0, 0x000000001", "addi x1, x0, -2147483649",
		"addi x1, x0, 10;", "addi x1, x0, 10!", "addi x1, x0, 10\n", "mret\r", "mret\n", "\nmret", "addi\nx1, x0, 10", "mret\x80", "mret\xff", "é", "mret é", "addi x1, x0, 10 \x00", "addi x1, [x0], 10",
	} {
		wantNoLine(t, s, api.ErrForm)
	}
}

// P6.1: Illegal has a name (layer 2), but no text (layer 5), so that no line is one of it.
func TestNoLineIsIllegals(t *testing.T) {
	for _, s := range []string{
		"illegal", " illegal ", "\tillegal", "illegal#", "illegal # mret", "illegal\t# illegal",
		"illegal x0", "illegal x1", "illegal 0", "illegal -1", "illegal,", "illegal ()", "illegal illegal", "illegal mret", "mret illegal",
		"illegal x1, x2", "illegal x1, x2, x3", "illegal x1, x2, 0", "illegal x1, 0(x2)", "illegal x1, 0",
		"illegal:", "illegal: mret", "illegal: illegal", "a: illegal", "jal x0, illegal", ".word illegal",
		"Illegal", "ILLEGAL", "illegal!",
	} {
		wantNoLine(t, s, api.ErrForm)
	}
}

// P6.1
func TestRegistersThatAreNone(t *testing.T) {
	for _, name := range []string{"x", "x32", "x33", "x39", "x40", "x99", "x00", "x01", "x09", "x031", "x100", "x001", "x310", "x-1", "x-0", "X1", "X", "xx1", "x1x", "x1.", "x_1", "1", "r1", "a0", "ra", "zero", "sp", "xa", "x1a", "x0x1", "x4294967297", "-x1", "_x1"} {
		for _, s := range []string{"add R, x2, x3", "add x1, R, x3", "add x1, x2, R", "lw R, 0(x1)", "lw x1, 0(R)", "sw R, 0(x1)", "beq R, x1, 4", "beq x1, R, 4", "jal R, 4", "lui R, 4", "csrrw R, 5, x1", "csrrw x1, 5, R", "csrrwi R, 5, 6", "slli R, x1, 2"} {
			wantNoLine(t, strings.Replace(s, "R", name, 1), api.ErrForm)
			wantNoProgram(t, strings.Replace(s, "R", name, 1), 1, api.ErrForm)
		}
	}
}

// P6.1
func TestEveryRegister(t *testing.T) {
	for n := range 100 {
		s := fmt.Sprintf("add x%d, x%d, x%d", n, n, n)
		if n < 32 {
			wantLine(t, s, api.Instr{Op: api.Add, Rd: n, Rs1: n, Rs2: n})
		} else {
			wantNoLine(t, s, api.ErrForm)
		}
		if n < 10 {
			wantNoLine(t, fmt.Sprintf("add x0%d, x1, x1", n), api.ErrForm)
		}
	}
}

// P6.1: blanks are of no weight where pieces are told apart without them.
func TestEveryInstructionAtItsEdges(t *testing.T) {
	for _, r := range chapterRows(t) {
		for _, f := range r.edges() {
			want, pieces := r.instr(f), r.texts(f)
			if !inst.Right(want) {
				t.Fatalf("the test has %+v, which is not right", want)
			}
			wantLine(t, r.line(pieces), want)
			wantLine(t, r.tight(pieces), want)
			wantLine(t, "\t "+r.name+"\t"+strings.Join(pieces, " \t ")+" # "+r.name+" !", want)
		}
	}
}

// P6.1
func TestNumbersInEachWay(t *testing.T) {
	for _, r := range chapterRows(t) {
		for at, a := range r.asked {
			if !isNumberField(a) {
				continue
			}
			f := r.middle()
			for _, n := range kinds[a].edges {
				f[a] = n
				for _, s := range waysToWrite(n) {
					pieces := r.texts(f)
					pieces[at] = s
					wantLine(t, r.line(pieces), r.instr(f))
				}
			}
		}
	}
}

// P6.1, and P6.2 for a program of one line
func TestNumbersThatAreNotRight(t *testing.T) {
	for _, r := range chapterRows(t) {
		for at, a := range r.asked {
			for _, n := range kinds[a].wrong {
				for _, s := range waysToWrite(n) {
					pieces := r.texts(r.middle())
					pieces[at] = s
					wantNoLine(t, r.line(pieces), kinds[a].why)
					wantNoProgram(t, "\n"+r.line(pieces)+"\n", 2, kinds[a].why)
				}
			}
		}
	}
}

// P6.1: too many, too few, and what is asked for in another order.
func TestPiecesThatAreNotAsked(t *testing.T) {
	for _, r := range chapterRows(t) {
		pieces := r.texts(r.middle())
		wantLine(t, r.line(pieces), r.instr(r.middle()))
		for at := range pieces {
			wantNoLine(t, r.line(slices.Delete(slices.Clone(pieces), at, at+1)), api.ErrForm)
			wantNoLine(t, r.line(pieces[:at]), api.ErrForm)
			if at > 0 {
				wantNoLine(t, r.line(pieces[at:]), api.ErrForm)
			}
		}
		for at := 0; at <= len(pieces); at++ {
			for _, more := range []string{",", "(", ")", ":", "x1", "5", "loop", ".word", r.name, "-"} {
				wantNoLine(t, r.line(slices.Insert(slices.Clone(pieces), at, more)), api.ErrForm)
			}
		}
	}
}

// fits is whether a piece may stand where a field is asked for, in a line alone and in a program.
func fits(asked, piece string) (line, program bool) {
	switch {
	case isRegisterField(asked):
		is := regexp.MustCompile(`^x([0-9]|[12][0-9]|3[01])$`).MatchString(piece)
		return is, is
	case isNumberField(asked):
		n, err := chapterNumber(piece)
		line = err == api.OK && (asked != "U" || n < 1<<20)
		name := regexp.MustCompile(`^[a-zA-Z_]`).MatchString(piece)
		return line, line || name && (asked == "J" || asked == "B")
	}
	return piece == asked, piece == asked
}

// P6.1, and P6.2 for a label's name: each piece in the place of each.
func TestPiecesInAnothersPlace(t *testing.T) {
	for _, r := range chapterRows(t) {
		for at, a := range r.asked {
			for _, piece := range []string{",", "(", ")", ":", "x0", "x7", "x31", "x32", "X7", "0", "2", "8", "-8", "0x8", "4294967296", "-", "loop", "_", "__2", "-loop", ".loop", ".word", "mret", "x", "8x"} {
				pieces := r.texts(r.middle())
				pieces[at] = piece
				s := r.line(pieces)
				inLine, inProgram := fits(a, piece)
				if _, err := Line(s); (err != api.ErrForm) != inLine {
					t.Fatalf("Line(%q): %v; may it be there: %v", s, err, inLine)
				}
				// Each of the names is there, so that none is wrong for being nowhere.
				text := s + "\nloop:\n_:\n__2:\nmret:\nx:\nx0:\nx7:\nx31:\nx32:\nX7:"
				if _, _, err := Program(text); (err != api.ErrForm) != inProgram {
					t.Fatalf("Program(%q): %v; may it be there: %v", text, err, inProgram)
				}
			}
		}
	}
}
