package encode

import (
	"bytes"
	"math"
	"slices"
	"strconv"
	"strings"
	"testing"

	"mimesis/api"
	"mimesis/decode"
	"mimesis/inst"
)

// chapterTable is the table of layer 3's chapter, in its order: the name, the match.
const chapterTable = `
lui 00000037
auipc 00000017
jal 0000006f
jalr 00000067
beq 00000063
bne 00001063
blt 00004063
bge 00005063
bltu 00006063
bgeu 00007063
lb 00000003
lh 00001003
lw 00002003
lbu 00004003
lhu 00005003
sb 00000023
sh 00001023
sw 00002023
addi 00000013
slti 00002013
sltiu 00003013
xori 00004013
ori 00006013
andi 00007013
slli 00001013
srli 00005013
srai 40005013
add 00000033
sub 40000033
sll 00001033
slt 00002033
sltu 00003033
xor 00004033
srl 00005033
sra 40005033
or 00006033
and 00007033
fence 0000000f
fence.i 0000100f
ecall 00000073
ebreak 00100073
csrrw 00001073
csrrs 00002073
csrrc 00003073
csrrwi 00005073
csrrsi 00006073
csrrci 00007073
mret 30200073
wfi 10500073
mul 02000033
mulh 02001033
mulhsu 02002033
mulhu 02003033
div 02004033
divu 02005033
rem 02006033
remu 02007033
`

// A form's layout goes from bit 31 down: which bits of which field stand there, "-" where the match alone does.
var layouts = []string{
	inst.FormNone:  "-31:0",
	inst.FormU:     "imm31:12 rd4:0 -6:0",
	inst.FormJ:     "imm20:20 imm10:1 imm11:11 imm19:12 rd4:0 -6:0",
	inst.FormI:     "imm11:0 rs1/4:0 -2:0 rd4:0 -6:0",
	inst.FormB:     "imm12:12 imm10:5 rs2/4:0 rs1/4:0 -2:0 imm4:1 imm11:11 -6:0",
	inst.FormS:     "imm11:5 rs2/4:0 rs1/4:0 -2:0 imm4:0 -6:0",
	inst.FormR:     "-6:0 rs2/4:0 rs1/4:0 -2:0 rd4:0 -6:0",
	inst.FormShift: "-6:0 imm4:0 rs1/4:0 -2:0 rd4:0 -6:0",
	inst.FormCsr:   "csr11:0 rs1/4:0 -2:0 rd4:0 -6:0",
	inst.FormCsrI:  "csr11:0 imm4:0 -2:0 rd4:0 -6:0",
}

// What each form's Imm may be, at its edges, and what it may not be, beside them.
var (
	rightImms = [][]int{
		inst.FormNone:  {0},
		inst.FormU:     {0, 0x1000, 0x2000, 0x7ffff000, 0x80000000, 0xfffff000, 0xffffe000},
		inst.FormJ:     {0, 2, -2, 4, -4, 1 << 11, 1 << 12, 1 << 19, 1<<20 - 2, -1 << 20, 2 - 1<<20, 0x5554a},
		inst.FormI:     {0, 1, -1, 2, -2, 1 << 10, 2047, -2048, -2047, 0x555},
		inst.FormB:     {0, 2, -2, 4, -4, 1 << 5, 1 << 10, 1 << 11, 4094, -4096, -4094, 0xaaa},
		inst.FormS:     {0, 1, -1, 16, 32, 1 << 10, 2047, -2048, -2047, 0x555},
		inst.FormR:     {0},
		inst.FormShift: {0, 1, 15, 16, 30, 31},
		inst.FormCsr:   {0},
		inst.FormCsrI:  {0, 1, 15, 16, 30, 31},
	}
	wrongImms = [][]int{
		inst.FormNone:  {1, -1, math.MinInt32},
		inst.FormU:     {1, 0x800, 0xfff, 0x1001, -1, 0xfffff800, 0x80000001},
		inst.FormJ:     {1, -1, 3, -3, 1 << 20, 1<<20 - 1, -1<<20 - 2, -1<<20 - 1, 1 << 21, math.MaxInt32, math.MinInt32},
		inst.FormI:     {2048, -2049, 4095, 4096, math.MaxInt32, math.MinInt32},
		inst.FormB:     {1, -1, 3, -3, 4095, 4096, -4098, -4097, 8190, math.MaxInt32, math.MinInt32},
		inst.FormS:     {2048, -2049, 4095, 4096, math.MaxInt32, math.MinInt32},
		inst.FormR:     {1, -1, 31, math.MinInt32},
		inst.FormShift: {32, -1, 33, 1024, math.MinInt32},
		inst.FormCsr:   {1, -1, 31, math.MinInt32},
		inst.FormCsrI:  {32, -1, 33, math.MinInt32},
	}
)

// row is an instruction of the chapter's table.
type row struct {
	op, form int
	match    uint32
}

func chapterRows(t *testing.T) []row {
	t.Helper()
	var out []row
	for line := range strings.Lines(strings.TrimSpace(chapterTable)) {
		f := strings.Fields(line)
		op, e := inst.Op(f[0])
		n, err := strconv.ParseUint(f[1], 16, 32)
		if e != api.OK || err != nil {
			t.Fatalf("%q: %v %v", line, e, err)
		}
		form, _ := inst.Form(op)
		out = append(out, row{op, form, uint32(n)})
	}
	if len(out) != api.Ops-1 {
		t.Fatalf("the test has %d rows; want %d", len(out), api.Ops-1)
	}
	return out
}

// piece is some bits of a field, from high down to low.
type piece struct {
	field     string
	high, low int
}

func layout(form int) []piece {
	var out []piece
	for _, s := range strings.Fields(layouts[form]) {
		at := strings.LastIndexAny(s[:strings.Index(s, ":")], "abcdefghijklmnopqrstuvwxyz/-") + 1
		high, low, _ := strings.Cut(s[at:], ":")
		a, _ := strconv.Atoi(high)
		b, _ := strconv.Atoi(low)
		out = append(out, piece{strings.TrimSuffix(s[:at], "/"), a, b})
	}
	return out
}

func (r row) has(field string) bool {
	return slices.ContainsFunc(layout(r.form), func(p piece) bool { return p.field == field })
}

// chapterWord lays i's fields into the match bit by bit, as the form's layout says.
func (r row) chapterWord(i api.Instr) uint32 {
	fields := map[string]uint32{"rd": uint32(i.Rd), "rs1": uint32(i.Rs1), "rs2": uint32(i.Rs2), "csr": uint32(i.Csr), "imm": i.Imm}
	w, at := r.match, 31
	for _, p := range layout(r.form) {
		for bit := p.high; bit >= p.low; bit-- {
			if fields[p.field]>>bit&1 == 1 {
				w |= 1 << at
			}
			at--
		}
	}
	return w
}

// registers are what a field of that name may be, at its edges.
func (r row) registers(field string) []int {
	switch {
	case !r.has(field):
		return []int{0}
	case field == "csr":
		return []int{0, 1, 0x300, 0x555, 0x800, 4094, 4095}
	}
	return []int{0, 1, 16, 21, 31}
}

// edges are a row's instructions with all fields' edges against each other.
func (r row) edges() []api.Instr {
	var out []api.Instr
	for _, rd := range r.registers("rd") {
		for _, rs1 := range r.registers("rs1") {
			for _, rs2 := range r.registers("rs2") {
				for _, csr := range r.registers("csr") {
					for _, imm := range rightImms[r.form] {
						out = append(out, api.Instr{Op: r.op, Rd: rd, Rs1: rs1, Rs2: rs2, Imm: uint32(imm), Csr: csr})
					}
				}
			}
		}
	}
	return out
}

// wrongNumbers are what a field of that name may not be.
func (r row) wrongNumbers(field string) []int {
	out := []int{-1, 32, 33, 64, -32, 1 << 32, 1<<32 + 1, math.MinInt, math.MaxInt}
	if field == "csr" {
		out = []int{-1, 4096, 4097, 8192, -4096, 1 << 32, 1<<32 + 1, math.MinInt, math.MaxInt}
	}
	if !r.has(field) {
		out = append(out, 1, 2, 16, 31)
	}
	return out
}

// wrongs are i with one field alone that it may not have.
func (r row) wrongs(i api.Instr) []api.Instr {
	var out []api.Instr
	add := func(field string, to func(*api.Instr, int)) {
		for _, n := range r.wrongNumbers(field) {
			c := i
			to(&c, n)
			out = append(out, c)
		}
	}
	add("rd", func(c *api.Instr, n int) { c.Rd = n })
	add("rs1", func(c *api.Instr, n int) { c.Rs1 = n })
	add("rs2", func(c *api.Instr, n int) { c.Rs2 = n })
	add("csr", func(c *api.Instr, n int) { c.Csr = n })
	for _, n := range wrongImms[r.form] {
		c := i
		c.Imm = uint32(n)
		out = append(out, c)
	}
	return out
}

// mixed answers n words in a fixed row without a pattern that the forms share.
func mixed(n int) []uint32 {
	var out []uint32
	x := uint64(1)
	for range n {
		x = x*6364136223846793005 + 1442695040888963407
		out = append(out, uint32(x>>32))
	}
	return out
}

func wantWord(t *testing.T, i api.Instr, want uint32) {
	t.Helper()
	if w, err := Encode(i); err != api.OK || w != want {
		t.Fatalf("Encode(%+v) = %08x, %v; want %08x", i, w, err, want)
	}
}

func wantNone(t *testing.T, i api.Instr) {
	t.Helper()
	if w, err := Encode(i); err != api.ErrOp || w != 0 {
		t.Fatalf("Encode(%+v) = %08x, %v; want 0, ErrOp", i, w, err)
	}
}

// P4.1
func TestMatch(t *testing.T) {
	for _, r := range chapterRows(t) {
		if w, err := Match(r.op); err != api.OK || w != r.match {
			t.Errorf("Match(%d) = %08x, %v; want %08x", r.op, w, err, r.match)
		}
	}
	for _, op := range []int{api.Illegal, -1, api.Ops, api.Ops + 1, 1 << 32, 1<<32 + 1, math.MinInt, math.MaxInt} {
		if w, err := Match(op); err != api.ErrOp || w != 0 {
			t.Errorf("Match(%d) = %08x, %v; want 0, ErrOp", op, w, err)
		}
	}
}

// P4.1
func TestNamedWords(t *testing.T) {
	for _, c := range []struct {
		w uint32
		i api.Instr
	}{
		{0x00a00093, api.Instr{Op: api.Addi, Rd: 1, Imm: 10}},
		{0x80000013, api.Instr{Op: api.Addi, Imm: 0xfffff800}},
		{0xfffff0b7, api.Instr{Op: api.Lui, Rd: 1, Imm: 0xfffff000}},
		{0x00001f97, api.Instr{Op: api.Auipc, Rd: 31, Imm: 0x1000}},
		{0x8000006f, api.Instr{Op: api.Jal, Imm: 0xfff00000}},
		{0x7ffff0ef, api.Instr{Op: api.Jal, Rd: 1, Imm: 0xffffe}},
		{0x0010006f, api.Instr{Op: api.Jal, Imm: 0x800}},
		{0x0000106f, api.Instr{Op: api.Jal, Imm: 0x1000}},
		{0x00008067, api.Instr{Op: api.Jalr, Rs1: 1}},
		{0x000000e3, api.Instr{Op: api.Beq, Imm: 0x800}},
		{0x80000063, api.Instr{Op: api.Beq, Imm: 0xfffff000}},
		{0xfe209ee3, api.Instr{Op: api.Bne, Rs1: 1, Rs2: 2, Imm: 0xfffffffc}},
		{0xfe512e23, api.Instr{Op: api.Sw, Rs1: 2, Rs2: 5, Imm: 0xfffffffc}},
		{0x41f0df93, api.Instr{Op: api.Srai, Rd: 31, Rs1: 1, Imm: 31}},
		{0x41f0df33, api.Instr{Op: api.Sra, Rd: 30, Rs1: 1, Rs2: 31}},
		{0xfff02073, api.Instr{Op: api.Csrrs, Csr: 4095}},
		{0x000fe0f3, api.Instr{Op: api.Csrrsi, Rd: 1, Imm: 31}},
		{0xffff900f, api.Instr{Op: api.FenceI, Rs1: 31, Imm: 0xffffffff}},
		{0x00000073, api.Instr{Op: api.Ecall}},
		{0x00100073, api.Instr{Op: api.Ebreak}},
		{0x30200073, api.Instr{Op: api.Mret}},
		{0x10500073, api.Instr{Op: api.Wfi}},
	} {
		wantWord(t, c.i, c.w)
	}
}

// P4.1
func TestEveryInstructionAtItsEdges(t *testing.T) {
	for _, r := range chapterRows(t) {
		for _, i := range r.edges() {
			if !inst.Right(i) {
				t.Fatalf("the test has %+v, which is not right", i)
			}
			wantWord(t, i, r.chapterWord(i))
		}
	}
}

// P4.1
func TestEveryRegister(t *testing.T) {
	for _, r := range chapterRows(t) {
		for n := range 32 {
			i := api.Instr{Op: r.op}
			if r.has("rd") {
				i.Rd = n
			}
			if r.has("rs1") {
				i.Rs1 = 31 - n
			}
			if r.has("rs2") {
				i.Rs2 = n ^ 5
			}
			wantWord(t, i, r.chapterWord(i))
		}
	}
}

// The layouts that the tests go by are whole words.
func TestLayouts(t *testing.T) {
	for form := range layouts {
		n := 0
		for _, p := range layout(form) {
			n += p.high - p.low + 1
		}
		if n != 32 {
			t.Errorf("form %d: %d bits", form, n)
		}
	}
}

// P4.1
func TestWhatIsNotRightByOneField(t *testing.T) {
	for _, r := range chapterRows(t) {
		edges := r.edges()
		for _, i := range []api.Instr{edges[0], edges[len(edges)/2], edges[len(edges)-1]} {
			for _, c := range r.wrongs(i) {
				wantNone(t, c)
			}
		}
	}
}

// P4.1
func TestNoInstruction(t *testing.T) {
	for _, op := range []int{api.Illegal, -1, api.Ops, api.Ops + 1, 1 << 32, 1<<32 + api.Ecall, math.MinInt, math.MaxInt} {
		wantNone(t, api.Instr{Op: op})
		wantNone(t, api.Instr{Op: op, Rd: 1, Rs1: 2, Imm: 3})
	}
}

// P4.1
func TestAllAndBytesOfNone(t *testing.T) {
	for _, none := range [][]api.Instr{nil, {}} {
		if got, err := All(none); err != api.OK || len(got) != 0 {
			t.Errorf("All(%v) = %x, %v; want none", none, got, err)
		}
		if got, err := Bytes(none); err != api.OK || len(got) != 0 {
			t.Errorf("Bytes(%v) = %x, %v; want none", none, got, err)
		}
	}
}

// P4.1
func TestAllAndBytesInOrder(t *testing.T) {
	addi, srai := api.Instr{Op: api.Addi, Rd: 1, Imm: 10}, api.Instr{Op: api.Srai, Rd: 10, Rs1: 10, Imm: 5}
	for _, c := range []struct {
		l     []api.Instr
		words []uint32
		b     []byte
	}{
		{[]api.Instr{addi}, []uint32{0x00a00093}, []byte{0x93, 0, 0xa0, 0}},
		{[]api.Instr{addi, srai}, []uint32{0x00a00093, 0x40555513}, []byte{0x93, 0, 0xa0, 0, 0x13, 0x55, 0x55, 0x40}},
		{[]api.Instr{srai, addi, addi}, []uint32{0x40555513, 0x00a00093, 0x00a00093}, []byte{0x13, 0x55, 0x55, 0x40, 0x93, 0, 0xa0, 0, 0x93, 0, 0xa0, 0}},
	} {
		if got, err := All(c.l); err != api.OK || !slices.Equal(got, c.words) {
			t.Errorf("All(%v) = %x, %v; want %x", c.l, got, err, c.words)
		}
		if got, err := Bytes(c.l); err != api.OK || !bytes.Equal(got, c.b) {
			t.Errorf("Bytes(%v) = %x, %v; want %x", c.l, got, err, c.b)
		}
	}
}

// P4.1
func TestAllAndBytesOfMany(t *testing.T) {
	var l []api.Instr
	var words []uint32
	var b []byte
	for _, r := range chapterRows(t) {
		for _, i := range r.edges() {
			w := r.chapterWord(i)
			l, words = append(l, i), append(words, w)
			for k := range 4 {
				b = append(b, byte(w>>(8*k)))
			}
		}
	}
	if got, err := All(l); err != api.OK || !slices.Equal(got, words) {
		t.Errorf("All of %d instructions: %d words, %v, or others than they should be", len(l), len(got), err)
	}
	if got, err := Bytes(l); err != api.OK || !bytes.Equal(got, b) {
		t.Errorf("Bytes of %d instructions: %d bytes, %v, or others than they should be", len(l), len(got), err)
	}
}

// P4.1
func TestAllAndBytesWithOneThatHasNone(t *testing.T) {
	right := api.Instr{Op: api.Addi, Rd: 1, Imm: 10}
	for _, wrong := range []api.Instr{{}, {Op: api.Addi, Imm: 2048}, {Op: api.Add, Rd: 32}, {Op: api.Ops}, {Op: -1}} {
		for n := 1; n <= 5; n++ {
			for at := range n {
				l := slices.Repeat([]api.Instr{right}, n)
				l[at] = wrong
				if got, err := All(l); err != api.ErrOp || len(got) != 0 {
					t.Errorf("All(%v) = %x, %v; want none, ErrOp", l, got, err)
				}
				if got, err := Bytes(l); err != api.ErrOp || len(got) != 0 {
					t.Errorf("Bytes(%v) = %x, %v; want none, ErrOp", l, got, err)
				}
			}
		}
	}
}

// P4.1: what is handed in is left alone, also behind its end, and answers share no memory.
func TestAllAndBytesLeaveTheirList(t *testing.T) {
	room := []api.Instr{{Op: api.Ecall}, {Op: api.Mret}, {Op: api.Add, Rd: 99}, {Op: -7}}
	before := slices.Clone(room)
	words, _ := All(room[:2])
	b, _ := Bytes(room[:2])
	if !slices.Equal(room, before) {
		t.Errorf("the list is %v behind the calls; was %v", room, before)
	}
	clear(words)
	clear(b)
	if got, err := All(room[:2]); err != api.OK || !slices.Equal(got, []uint32{0x73, 0x30200073}) {
		t.Errorf("a second All shares memory with the first: %x, %v", got, err)
	}
	if got, err := Bytes(room[:2]); err != api.OK || !bytes.Equal(got, []byte{0x73, 0, 0, 0, 0x73, 0, 0x20, 0x30}) {
		t.Errorf("a second Bytes shares memory with the first: %x, %v", got, err)
	}
}

// P4.2
func TestConstantNamed(t *testing.T) {
	lui := func(rd int, imm uint32) api.Instr { return api.Instr{Op: api.Lui, Rd: rd, Imm: imm} }
	addi := func(rd, rs1 int, imm uint32) api.Instr { return api.Instr{Op: api.Addi, Rd: rd, Rs1: rs1, Imm: imm} }
	for _, rd := range []int{0, 1, 5, 30, 31} {
		for _, c := range []struct {
			n uint32
			l []api.Instr
		}{
			{0, []api.Instr{addi(rd, 0, 0)}},
			{1, []api.Instr{addi(rd, 0, 1)}},
			{0x7ff, []api.Instr{addi(rd, 0, 0x7ff)}},
			{0x800, []api.Instr{lui(rd, 0x1000), addi(rd, rd, 0xfffff800)}},
			{0xfff, []api.Instr{lui(rd, 0x1000), addi(rd, rd, 0xffffffff)}},
			{0x1000, []api.Instr{lui(rd, 0x1000)}},
			{0x1001, []api.Instr{lui(rd, 0x1000), addi(rd, rd, 1)}},
			{0x17ff, []api.Instr{lui(rd, 0x1000), addi(rd, rd, 0x7ff)}},
			{0x1800, []api.Instr{lui(rd, 0x2000), addi(rd, rd, 0xfffff800)}},
			{0x12345678, []api.Instr{lui(rd, 0x12345000), addi(rd, rd, 0x678)}},
			{0x12345fff, []api.Instr{lui(rd, 0x12346000), addi(rd, rd, 0xffffffff)}},
			{0x7ffff7ff, []api.Instr{lui(rd, 0x7ffff000), addi(rd, rd, 0x7ff)}},
			{0x7ffff800, []api.Instr{lui(rd, 0x80000000), addi(rd, rd, 0xfffff800)}},
			{0x7fffffff, []api.Instr{lui(rd, 0x80000000), addi(rd, rd, 0xffffffff)}},
			{0x80000000, []api.Instr{lui(rd, 0x80000000)}},
			{0xffffefff, []api.Instr{lui(rd, 0xfffff000), addi(rd, rd, 0xffffffff)}},
			{0xfffff000, []api.Instr{lui(rd, 0xfffff000)}},
			{0xfffff7ff, []api.Instr{lui(rd, 0xfffff000), addi(rd, rd, 0x7ff)}},
			{0xfffff800, []api.Instr{addi(rd, 0, 0xfffff800)}},
			{0xffffffff, []api.Instr{addi(rd, 0, 0xffffffff)}},
		} {
			if got, err := Constant(rd, c.n); err != api.OK || !slices.Equal(got, c.l) {
				t.Errorf("Constant(%d, %08x) = %v, %v; want %v", rd, c.n, got, err, c.l)
			}
		}
	}
}

// P4.2
func TestConstantOfNoRegister(t *testing.T) {
	for _, rd := range []int{-1, 32, 33, -32, 1 << 32, 1<<32 + 5, math.MinInt, math.MaxInt} {
		for _, n := range []uint32{0, 1, 0xfff, 0x1000, 0x12345678, 0xffffffff} {
			if got, err := Constant(rd, n); err != api.ErrOp || len(got) != 0 {
				t.Errorf("Constant(%d, %08x) = %v, %v; want none, ErrOp", rd, n, got, err)
			}
		}
	}
}

// chapterConstant is the chapter's rule, in its words: the top 20 bits, one more, the lowest 12 as a signed number.
func chapterConstant(rd int, n uint32) []api.Instr {
	top, low := int(n>>12), int(n&0xfff)
	if n&(1<<11) != 0 {
		top = (top + 1) % (1 << 20)
		low -= 1 << 12
	}
	lui := api.Instr{Op: api.Lui, Rd: rd, Imm: uint32(top) << 12}
	switch {
	case top == 0:
		return []api.Instr{{Op: api.Addi, Rd: rd, Imm: uint32(low)}}
	case low == 0:
		return []api.Instr{lui}
	}
	return []api.Instr{lui, {Op: api.Addi, Rd: rd, Rs1: rd, Imm: uint32(low)}}
}

// manyNumbers are all lowest halves of 13 bits under some tops, all single bits with those beside them, and mixed ones.
func manyNumbers() []uint32 {
	out := mixed(20000)
	for _, top := range []uint32{0, 0x2000, 0x7fffe000, 0x80000000, 0xffffe000, 0x12344000} {
		for low := range uint32(1 << 13) {
			out = append(out, top+low)
		}
	}
	for b := range 32 {
		one := uint32(1) << b
		out = append(out, one, one-1, one+1, ^one, -one)
	}
	return out
}

// P4.2
func TestConstantOfMany(t *testing.T) {
	for k, n := range manyNumbers() {
		rd := k % 32
		if got, err := Constant(rd, n); err != api.OK || !slices.Equal(got, chapterConstant(rd, n)) {
			t.Fatalf("Constant(%d, %08x) = %v, %v; want %v", rd, n, got, err, chapterConstant(rd, n))
		}
	}
}

// P4.2: answers share no memory.
func TestConstantIsNew(t *testing.T) {
	first, _ := Constant(5, 0xfff)
	clear(first)
	if got, err := Constant(5, 0xfff); err != api.OK || !slices.Equal(got, chapterConstant(5, 0xfff)) {
		t.Errorf("a second answer shares memory with the first: %v, %v", got, err)
	}
}

// P4.3
func TestWordsAreReadAsTheirInstructions(t *testing.T) {
	for _, r := range chapterRows(t) {
		for _, i := range r.edges() {
			w, err := Encode(i)
			if got := decode.Decode(w); err != api.OK || got != i {
				t.Fatalf("Encode(%+v) = %08x, %v, which is read as %+v", i, w, err, got)
			}
		}
	}
}

// P4.3
func TestLegalWordsThereAndBack(t *testing.T) {
	legal := 0
	try := func(w uint32) {
		if !decode.Legal(w) {
			return
		}
		legal++
		if got, err := Encode(decode.Decode(w)); err != api.OK || got != w {
			t.Fatalf("%08x is read as %+v, whose word is %08x, %v", w, decode.Decode(w), got, err)
		}
	}
	mix := mixed(100000)
	for _, r := range chapterRows(t) {
		try(r.match)
		for b := range 32 {
			try(r.match ^ 1<<b)
		}
		for _, x := range mix[:2000] {
			try(r.match | x&^0xfe00707f)
			try(r.match | x&^0x7f)
			try(r.match | x&^0x707f)
		}
	}
	for _, x := range mix {
		try(x)
	}
	if legal < 100000 {
		t.Errorf("only %d of these words are legal", legal)
	}
}

// P4.3: what is none's when it is read has no word.
func TestWhatIsReadAsIllegalHasNoWord(t *testing.T) {
	for _, w := range []uint32{0, 0xffffffff, 0x00200073, 0x02009093, 0x00003003} {
		wantNone(t, decode.Decode(w))
	}
}

// doAll does Lui and Addi, and nothing else, on registers that all have something.
func doAll(t *testing.T, l []api.Instr) (regs, before [32]uint32) {
	t.Helper()
	for k := range 31 {
		regs[k+1] = 0xdead0000 + uint32(k)
	}
	before = regs
	for _, i := range l {
		if !inst.Right(i) {
			t.Fatalf("%+v is not right", i)
		}
		switch i.Op {
		case api.Lui:
			regs[i.Rd] = i.Imm
		case api.Addi:
			regs[i.Rd] = regs[i.Rs1] + i.Imm
		default:
			t.Fatalf("%+v is neither Lui nor Addi", i)
		}
		regs[0] = 0
	}
	return regs, before
}

// P4.4: and the other registers are as they were; register 0 is 0, whatever is put there.
func TestConstantLeavesItsNumber(t *testing.T) {
	for k, n := range manyNumbers() {
		for _, rd := range []int{0, 1, 31, 1 + k%31} {
			l, err := Constant(rd, n)
			if err != api.OK {
				t.Fatalf("Constant(%d, %08x): %v", rd, n, err)
			}
			got, want := doAll(t, l)
			if rd != 0 {
				want[rd] = n
			}
			if got != want {
				t.Fatalf("Constant(%d, %08x) = %v leaves %x", rd, n, l, got)
			}
		}
	}
}

// P4.4: their words, read, leave it too.
func TestConstantHasWords(t *testing.T) {
	for _, n := range mixed(2000) {
		l, _ := Constant(7, n)
		words, err := All(l)
		if err != api.OK {
			t.Fatalf("All(%v): %v", l, err)
		}
		if regs, _ := doAll(t, decode.All(words)); regs[7] != n {
			t.Fatalf("Constant(7, %08x), encoded and read, leaves %08x", n, regs[7])
		}
	}
}
