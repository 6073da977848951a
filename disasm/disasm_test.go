package disasm

import (
	"fmt"
	"math"
	"slices"
	"strings"
	"testing"

	"mimesis/api"
	"mimesis/decode"
	"mimesis/encode"
	"mimesis/inst"
)

// chapterTable has the text of each instruction, by its Op from Lui on. A field stands in braces;
// of Imm it is the letter of what it may be: see immKinds.
const chapterTable = `
lui x{rd}, {u}
auipc x{rd}, {u}
jal x{rd}, {j}
jalr x{rd}, {i}(x{rs1})
beq x{rs1}, x{rs2}, {b}
bne x{rs1}, x{rs2}, {b}
blt x{rs1}, x{rs2}, {b}
bge x{rs1}, x{rs2}, {b}
bltu x{rs1}, x{rs2}, {b}
bgeu x{rs1}, x{rs2}, {b}
lb x{rd}, {i}(x{rs1})
lh x{rd}, {i}(x{rs1})
lw x{rd}, {i}(x{rs1})
lbu x{rd}, {i}(x{rs1})
lhu x{rd}, {i}(x{rs1})
sb x{rs2}, {i}(x{rs1})
sh x{rs2}, {i}(x{rs1})
sw x{rs2}, {i}(x{rs1})
addi x{rd}, x{rs1}, {i}
slti x{rd}, x{rs1}, {i}
sltiu x{rd}, x{rs1}, {i}
xori x{rd}, x{rs1}, {i}
ori x{rd}, x{rs1}, {i}
andi x{rd}, x{rs1}, {i}
slli x{rd}, x{rs1}, {n}
srli x{rd}, x{rs1}, {n}
srai x{rd}, x{rs1}, {n}
add x{rd}, x{rs1}, x{rs2}
sub x{rd}, x{rs1}, x{rs2}
sll x{rd}, x{rs1}, x{rs2}
slt x{rd}, x{rs1}, x{rs2}
sltu x{rd}, x{rs1}, x{rs2}
xor x{rd}, x{rs1}, x{rs2}
srl x{rd}, x{rs1}, x{rs2}
sra x{rd}, x{rs1}, x{rs2}
or x{rd}, x{rs1}, x{rs2}
and x{rd}, x{rs1}, x{rs2}
fence x{rd}, x{rs1}, {i}
fence.i x{rd}, x{rs1}, {i}
ecall
ebreak
csrrw x{rd}, {csr}, x{rs1}
csrrs x{rd}, {csr}, x{rs1}
csrrc x{rd}, {csr}, x{rs1}
csrrwi x{rd}, {csr}, {n}
csrrsi x{rd}, {csr}, {n}
csrrci x{rd}, {csr}, {n}
mret
wfi
mul x{rd}, x{rs1}, x{rs2}
mulh x{rd}, x{rs1}, x{rs2}
mulhsu x{rd}, x{rs1}, x{rs2}
mulhu x{rd}, x{rs1}, x{rs2}
div x{rd}, x{rs1}, x{rs2}
divu x{rd}, x{rs1}, x{rs2}
rem x{rd}, x{rs1}, x{rs2}
remu x{rd}, x{rs1}, x{rs2}
`

// immKind is what an Imm may be: from least to most in equal steps.
type immKind struct {
	field             string
	least, most, step int
	edges, wrong      []int
}

var immKinds = []immKind{
	{"{u}", 0, 0xfffff000, 0x1000, []int{0, 0x1000, 0x9000, 0xa000, 0x7ffff000, 0x80000000, 0xffffe000, 0xfffff000}, []int{1, 0x800, 0xfff, 0x1001, -1, 0x80000001, 0xfffff800}},
	{"{j}", -1 << 20, 1<<20 - 2, 2, []int{0, 2, -2, 8, 10, -8, -10, 1 << 19, 2 - 1<<20, -1 << 20, 1<<20 - 2}, []int{1, -1, 3, 1 << 20, 1<<20 - 1, -1<<20 - 1, -1<<20 - 2, math.MaxInt32, math.MinInt32}},
	{"{i}", -2048, 2047, 1, []int{0, 1, -1, 9, 10, -9, -10, 1024, -2047, -2048, 2047}, []int{2048, -2049, 4095, 4096, math.MaxInt32, math.MinInt32}},
	{"{b}", -4096, 4094, 2, []int{0, 2, -2, 8, 10, -8, -10, 2048, -4094, -4096, 4094}, []int{1, -1, 3, 4095, 4096, -4097, -4098, math.MaxInt32, math.MinInt32}},
	{"{n}", 0, 31, 1, []int{0, 1, 9, 10, 16, 30, 31}, []int{32, -1, 33, 1024, math.MaxInt32, math.MinInt32}},
}

// noImm is of instructions whose text has none.
var noImm = immKind{"", 0, 0, 1, []int{0}, []int{1, -1, 31, math.MaxInt32, math.MinInt32}}

// row is an instruction of the table.
type row struct {
	op   int
	text string
	imm  immKind
}

func chapterRows(t *testing.T) []row {
	t.Helper()
	var out []row
	for n, text := range strings.Split(strings.TrimSpace(chapterTable), "\n") {
		r := row{n + 1, text, noImm}
		for _, k := range immKinds {
			if strings.Contains(text, k.field) {
				r.imm = k
			}
		}
		out = append(out, r)
	}
	if len(out) != api.Ops-1 {
		t.Fatalf("the test has %d rows; want %d", len(out), api.Ops-1)
	}
	return out
}

func (r row) has(field string) bool {
	return strings.Contains(r.text, field)
}

// chapterText is the row's text with i's fields in the places of their names.
func (r row) chapterText(i api.Instr) string {
	signed := fmt.Sprint(int32(i.Imm))
	return strings.NewReplacer(
		"{rd}", fmt.Sprint(i.Rd), "{rs1}", fmt.Sprint(i.Rs1), "{rs2}", fmt.Sprint(i.Rs2), "{csr}", fmt.Sprint(i.Csr),
		"{u}", fmt.Sprint(i.Imm>>12), "{j}", signed, "{i}", signed, "{b}", signed, "{n}", fmt.Sprint(i.Imm),
	).Replace(r.text)
}

// numbers are what a field of that name may be, at its edges.
func (r row) numbers(field string) []int {
	switch {
	case !r.has(field):
		return []int{0}
	case field == "{csr}":
		return []int{0, 1, 10, 768, 2048, 4094, 4095}
	}
	return []int{0, 1, 9, 10, 31}
}

// edges are a row's instructions with all fields' edges against each other.
func (r row) edges() []api.Instr {
	var out []api.Instr
	for _, rd := range r.numbers("{rd}") {
		for _, rs1 := range r.numbers("{rs1}") {
			for _, rs2 := range r.numbers("{rs2}") {
				for _, csr := range r.numbers("{csr}") {
					for _, imm := range r.imm.edges {
						out = append(out, api.Instr{Op: r.op, Rd: rd, Rs1: rs1, Rs2: rs2, Imm: uint32(imm), Csr: csr})
					}
				}
			}
		}
	}
	return out
}

// wrongNumbers are what a field of that name may not be.
func (r row) wrongNumbers(field string) []int {
	out := []int{-1, 32, 33, -32, 1 << 32, 1<<32 + 1, math.MinInt, math.MaxInt}
	if field == "{csr}" {
		out = []int{-1, 4096, 4097, -4096, 1 << 32, 1<<32 + 1, math.MinInt, math.MaxInt}
	}
	if !r.has(field) {
		out = append(out, 1, 2, 31)
	}
	return out
}

// part is a field of an instruction beside its Op and its Imm.
type part struct {
	field string
	of    func(*api.Instr) *int
}

func parts() []part {
	return []part{
		{"{rd}", func(i *api.Instr) *int { return &i.Rd }},
		{"{rs1}", func(i *api.Instr) *int { return &i.Rs1 }},
		{"{rs2}", func(i *api.Instr) *int { return &i.Rs2 }},
		{"{csr}", func(i *api.Instr) *int { return &i.Csr }},
	}
}

// wrongs are i with one field alone that it may not have.
func (r row) wrongs(i api.Instr) []api.Instr {
	var out []api.Instr
	for _, p := range parts() {
		for _, n := range r.wrongNumbers(p.field) {
			c := i
			*p.of(&c) = n
			out = append(out, c)
		}
	}
	for _, n := range r.imm.wrong {
		c := i
		c.Imm = uint32(n)
		out = append(out, c)
	}
	return out
}

// mixed answers n words in a fixed row without a pattern that the forms share.
func mixed(n int) []uint32 {
	var out []uint32
	x := uint64(1)
	for range n {
		x = x*6364136223846793005 + 1442695040888963407
		out = append(out, uint32(x>>32))
	}
	return out
}

func wantText(t *testing.T, i api.Instr, want string) {
	t.Helper()
	if s, err := Text(i); err != api.OK || s != want {
		t.Fatalf("Text(%+v) = %q, %v; want %q", i, s, err, want)
	}
}

func wantNone(t *testing.T, i api.Instr) {
	t.Helper()
	if s, err := Text(i); err != api.ErrOp || s != "" {
		t.Fatalf("Text(%+v) = %q, %v; want none, ErrOp", i, s, err)
	}
}

// P5.1
func TestNumber(t *testing.T) {
	for _, c := range []struct {
		n    int
		want string
	}{
		{0, "0"},
		{1, "1"},
		{9, "9"},
		{10, "10"},
		{11, "11"},
		{99, "99"},
		{100, "100"},
		{1000000, "1000000"},
		{1234567890, "1234567890"},
		{2147483647, "2147483647"},
		{2147483648, "2147483648"},
		{4294967295, "4294967295"},
		{4294967296, "4294967296"},
		{1234567890123456789, "1234567890123456789"},
		{math.MaxInt - 1, "9223372036854775806"},
		{math.MaxInt, "9223372036854775807"},
		{-1, "-1"},
		{-9, "-9"},
		{-10, "-10"},
		{-100, "-100"},
		{-2147483648, "-2147483648"},
		{-2147483649, "-2147483649"},
		{-1234567890123456789, "-1234567890123456789"},
		{math.MinInt + 1, "-9223372036854775807"},
		{math.MinInt, "-9223372036854775808"},
	} {
		if got := Number(c.n); got != c.want {
			t.Errorf("Number(%d) = %q; want %q", c.n, got, c.want)
		}
	}
}

// byHand puts the digits one by one, so that it shares nothing with the package's way.
func byHand(n int) string {
	sign, s := "", ""
	if n < 0 {
		sign, n = "-", -n
	}
	for n > 9 {
		s = string("0123456789"[n%10]) + s
		n /= 10
	}
	return sign + string("0123456789"[n]) + s
}

// P5.1
func TestNumberAndRegisterOfMany(t *testing.T) {
	var ns []int
	for n := -5000; n <= 5000; n++ {
		ns = append(ns, n)
	}
	for p := 1; p <= math.MaxInt/10; p *= 10 {
		ns = append(ns, p-1, p, p+1, 1-p, -p, -p-1)
	}
	for _, n := range ns {
		want := byHand(n)
		if got := Number(n); got != want {
			t.Fatalf("Number(%d) = %q; want %q", n, got, want)
		}
		if got := Register(n); got != "x"+want {
			t.Fatalf("Register(%d) = %q; want %q", n, got, "x"+want)
		}
	}
}

// P5.1
func TestRegister(t *testing.T) {
	for _, c := range []struct {
		n    int
		want string
	}{
		{0, "x0"},
		{1, "x1"},
		{9, "x9"},
		{10, "x10"},
		{31, "x31"},
		{32, "x32"},
		{-1, "x-1"},
		{100, "x100"},
		{math.MinInt, "x-9223372036854775808"},
		{math.MaxInt, "x9223372036854775807"},
	} {
		if got := Register(c.n); got != c.want {
			t.Errorf("Register(%d) = %q; want %q", c.n, got, c.want)
		}
	}
}

// P5.1
func TestNamedTexts(t *testing.T) {
	for _, c := range []struct {
		i    api.Instr
		want string
	}{
		{api.Instr{Op: api.Lui, Rd: 31, Imm: 0xfffff000}, "lui x31, 1048575"},
		{api.Instr{Op: api.Lui}, "lui x0, 0"},
		{api.Instr{Op: api.Auipc, Rd: 5, Imm: 0x80000000}, "auipc x5, 524288"},
		{api.Instr{Op: api.Auipc, Rd: 5, Imm: 0x1000}, "auipc x5, 1"},
		{api.Instr{Op: api.Jal, Rd: 1, Imm: 0xfff00000}, "jal x1, -1048576"},
		{api.Instr{Op: api.Jal, Imm: 0xffffe}, "jal x0, 1048574"},
		{api.Instr{Op: api.Jal, Rd: 31, Imm: 0xfffffffe}, "jal x31, -2"},
		{api.Instr{Op: api.Jalr, Rd: 1, Rs1: 2, Imm: 0xffffffff}, "jalr x1, -1(x2)"},
		{api.Instr{Op: api.Lb, Rd: 1, Rs1: 31, Imm: 2047}, "lb x1, 2047(x31)"},
		{api.Instr{Op: api.Lhu, Rd: 31, Rs1: 1, Imm: 0xfffff800}, "lhu x31, -2048(x1)"},
		{api.Instr{Op: api.Lw}, "lw x0, 0(x0)"},
		{api.Instr{Op: api.Sw, Rs1: 2, Rs2: 5, Imm: 8}, "sw x5, 8(x2)"},
		{api.Instr{Op: api.Sb, Rs1: 31, Rs2: 1, Imm: 0xfffff800}, "sb x1, -2048(x31)"},
		{api.Instr{Op: api.Addi, Rd: 1, Rs1: 2, Imm: 0xfffffff6}, "addi x1, x2, -10"},
		{api.Instr{Op: api.Sltiu, Rd: 1, Rs1: 2, Imm: 0xffffffff}, "sltiu x1, x2, -1"},
		{api.Instr{Op: api.Fence, Imm: 0xff}, "fence x0, x0, 255"},
		{api.Instr{Op: api.FenceI, Rd: 1, Rs1: 2, Imm: 0xfffffffd}, "fence.i x1, x2, -3"},
		{api.Instr{Op: api.Bne, Rs1: 1, Rs2: 2, Imm: 0xfffffffc}, "bne x1, x2, -4"},
		{api.Instr{Op: api.Bgeu, Rs1: 31, Imm: 4094}, "bgeu x31, x0, 4094"},
		{api.Instr{Op: api.Sub, Rd: 1, Rs1: 2, Rs2: 3}, "sub x1, x2, x3"},
		{api.Instr{Op: api.Remu, Rd: 31, Rs1: 30, Rs2: 29}, "remu x31, x30, x29"},
		{api.Instr{Op: api.Srai, Rd: 10, Rs1: 11, Imm: 31}, "srai x10, x11, 31"},
		{api.Instr{Op: api.Csrrc, Rd: 1, Rs1: 2, Csr: 4095}, "csrrc x1, 4095, x2"},
		{api.Instr{Op: api.Csrrw}, "csrrw x0, 0, x0"},
		{api.Instr{Op: api.Csrrsi, Rd: 1, Imm: 31, Csr: 833}, "csrrsi x1, 833, 31"},
		{api.Instr{Op: api.Ecall}, "ecall"},
		{api.Instr{Op: api.Ebreak}, "ebreak"},
		{api.Instr{Op: api.Mret}, "mret"},
		{api.Instr{Op: api.Wfi}, "wfi"},
	} {
		wantText(t, c.i, c.want)
	}
}

// P5.1
func TestEveryInstructionAtItsEdges(t *testing.T) {
	for _, r := range chapterRows(t) {
		for _, i := range r.edges() {
			if !inst.Right(i) {
				t.Fatalf("the test has %+v, which is not right", i)
			}
			wantText(t, i, r.chapterText(i))
		}
	}
}

// P5.1
func TestWhatIsNotRightByOneField(t *testing.T) {
	for _, r := range chapterRows(t) {
		edges := r.edges()
		for _, i := range []api.Instr{edges[0], edges[len(edges)/2], edges[len(edges)-1]} {
			for _, c := range r.wrongs(i) {
				wantNone(t, c)
			}
		}
	}
}

// P5.1
func TestNoInstruction(t *testing.T) {
	for _, op := range []int{api.Illegal, -1, api.Ops, api.Ops + 1, 1 << 32, 1<<32 + api.Ecall, math.MinInt, math.MaxInt} {
		wantNone(t, api.Instr{Op: op})
		wantNone(t, api.Instr{Op: op, Rd: 1, Rs1: 2, Imm: 3})
	}
}

// P5.1
func TestNamedWords(t *testing.T) {
	for _, c := range []struct {
		w    uint32
		want string
	}{
		{0x00a00093, "addi x1, x0, 10"},
		{0xfe209ee3, "bne x1, x2, -4"},
		{0x00512423, "sw x5, 8(x2)"},
		{0xfffff0b7, "lui x1, 1048575"},
		{0x00001f97, "auipc x31, 1"},
		{0x8000006f, "jal x0, -1048576"},
		{0x00008067, "jalr x0, 0(x1)"},
		{0x00012083, "lw x1, 0(x2)"},
		{0x40555513, "srai x10, x10, 5"},
		{0x41f0df33, "sra x30, x1, x31"},
		{0x0ff0000f, "fence x0, x0, 255"},
		{0x0000100f, "fence.i x0, x0, 0"},
		{0x30029073, "csrrw x0, 768, x5"},
		{0x3001f073, "csrrci x0, 768, 3"},
		{0x023100b3, "mul x1, x2, x3"},
		{0x00000073, "ecall"},
		{0x00100073, "ebreak"},
		{0x30200073, "mret"},
		{0x10500073, "wfi"},
	} {
		if got := Word(c.w); got != c.want {
			t.Errorf("Word(%08x) = %q; want %q", c.w, got, c.want)
		}
	}
}

// P5.1
func TestIllegalWords(t *testing.T) {
	for _, c := range []struct {
		w    uint32
		want string
	}{
		{0, ".word 0"},
		{1, ".word 1"},
		{10, ".word 10"},
		{0x7fffffff, ".word 2147483647"},
		{0x80000000, ".word 2147483648"},
		{0xfffffffe, ".word 4294967294"},
		{0xffffffff, ".word 4294967295"},
		{0x00002063, ".word 8291"},       // a branch that there is not
		{0x00003003, ".word 12291"},      // a load of eight bytes
		{0x00003023, ".word 12323"},      // a store of eight bytes
		{0x80001013, ".word 2147487763"}, // slli with a bit too many
		{0xc0000033, ".word 3221225523"}, // add with bits too many
		{0x000000f3, ".word 243"},        // ecall with an Rd
		{0x00200073, ".word 2097267"},    // neither ecall nor ebreak
		{0xb0200073, ".word 2954887283"}, // mret with a bit too many
		{0x00004073, ".word 16499"},      // between csrrc and csrrwi
	} {
		if decode.Legal(c.w) {
			t.Fatalf("the test has %08x, which is legal", c.w)
		}
		if got := Word(c.w); got != c.want {
			t.Errorf("Word(%08x) = %q; want %q", c.w, got, c.want)
		}
	}
}

// P5.1
func TestWordsOfEveryInstruction(t *testing.T) {
	for _, r := range chapterRows(t) {
		for _, i := range r.edges() {
			w, err := encode.Encode(i)
			if err != api.OK {
				t.Fatalf("the test has %+v, which has no word", i)
			}
			if got, want := Word(w), r.chapterText(i); got != want {
				t.Fatalf("Word(%08x) = %q; want %q", w, got, want)
			}
		}
	}
}

// chapterWord is the text that the table has for the instruction that w is read as.
func chapterWord(rows []row, w uint32) string {
	if !decode.Legal(w) {
		return fmt.Sprintf(".word %d", w)
	}
	i := decode.Decode(w)
	return rows[i.Op-1].chapterText(i)
}

// P5.1
func TestMixedWords(t *testing.T) {
	rows := chapterRows(t)
	for _, w := range mixed(50000) {
		if got, want := Word(w), chapterWord(rows, w); got != want {
			t.Fatalf("Word(%08x) = %q; want %q", w, got, want)
		}
	}
}

// P5.1
func TestLines(t *testing.T) {
	for _, c := range []struct {
		words []uint32
		want  string
	}{
		{nil, ""},
		{[]uint32{}, ""},
		{[]uint32{0}, ".word 0\n"},
		{[]uint32{0x73}, "ecall\n"},
		{[]uint32{0x00a00093}, "addi x1, x0, 10\n"},
		{[]uint32{0x73, 0x100f}, "ecall\nfence.i x0, x0, 0\n"},
		{[]uint32{0x100f, 0x73}, "fence.i x0, x0, 0\necall\n"},
		{[]uint32{0xffffffff, 0x73, 0xffffffff}, ".word 4294967295\necall\n.word 4294967295\n"},
		{[]uint32{0x73, 0x73, 0x73}, "ecall\necall\necall\n"},
	} {
		if got := Lines(c.words); got != c.want {
			t.Errorf("Lines(%x) = %q; want %q", c.words, got, c.want)
		}
	}
}

// P5.1
func TestLinesOfMany(t *testing.T) {
	rows := chapterRows(t)
	words := mixed(20000)
	var want []string
	for _, w := range words {
		want = append(want, chapterWord(rows, w)+"\n")
	}
	if got := slices.Collect(strings.Lines(Lines(words))); !slices.Equal(got, want) {
		t.Errorf("Lines of %d words: %d lines, or others than they should be", len(words), len(got))
	}
}

// P5.1: what is handed in is left alone, and nothing behind its end is told.
func TestLinesLeaveTheirList(t *testing.T) {
	room := []uint32{0x73, 0x30200073, 0x100073, 7}
	before := slices.Clone(room)
	if got := Lines(room[:2]); got != "ecall\nmret\n" {
		t.Errorf("Lines of two words with room behind = %q", got)
	}
	if !slices.Equal(room, before) {
		t.Errorf("the list is %x behind the call; was %x", room, before)
	}
}

// texts are those that came, each with the instruction whose it is.
type texts map[string]api.Instr

func (l texts) wantOwn(t *testing.T, i api.Instr) {
	t.Helper()
	s, err := Text(i)
	if err != api.OK {
		t.Fatalf("Text(%+v): %v", i, err)
	}
	if other, there := l[s]; there && other != i {
		t.Fatalf("%+v and %+v have one text: %q", other, i, s)
	}
	l[s] = i
}

// P5.2
func TestNoTwoEdgesHaveOneText(t *testing.T) {
	l := texts{}
	for _, r := range chapterRows(t) {
		for _, i := range r.edges() {
			l.wantOwn(t, i)
		}
	}
}

// P5.2
func TestOneFieldMakesAnotherText(t *testing.T) {
	for _, r := range chapterRows(t) {
		edges := r.edges()
		for _, i := range []api.Instr{edges[0], edges[len(edges)-1]} {
			for _, p := range parts() {
				l := texts{}
				for n := range 4096 {
					c := i
					*p.of(&c) = n
					if inst.Right(c) {
						l.wantOwn(t, c)
					}
				}
			}
		}
	}
}

// P5.2
func TestEveryImmMakesAnotherText(t *testing.T) {
	for _, r := range chapterRows(t) {
		l := texts{}
		i := r.edges()[0]
		for n := r.imm.least; n <= r.imm.most; n += r.imm.step {
			i.Imm = uint32(n)
			l.wantOwn(t, i)
		}
	}
}

// P5.2: also where registers and numbers could run into one another, as in x1, 1 and x11.
func TestNoTwoMixedWordsHaveOneText(t *testing.T) {
	l := texts{}
	for _, w := range mixed(200000) {
		if decode.Legal(w) {
			l.wantOwn(t, decode.Decode(w))
		}
	}
	for rd := range 32 {
		for rs1 := range 32 {
			for imm := range uint32(32) {
				l.wantOwn(t, api.Instr{Op: api.Addi, Rd: rd, Rs1: rs1, Imm: imm})
				l.wantOwn(t, api.Instr{Op: api.Lw, Rd: rd, Rs1: rs1, Imm: imm})
				l.wantOwn(t, api.Instr{Op: api.Csrrw, Rd: rd, Rs1: rs1, Csr: int(imm)})
				l.wantOwn(t, api.Instr{Op: api.Csrrwi, Rd: rd, Imm: imm, Csr: rs1})
				l.wantOwn(t, api.Instr{Op: api.Add, Rd: rd, Rs1: rs1, Rs2: int(imm)})
			}
		}
	}
}
