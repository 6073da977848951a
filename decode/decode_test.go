package decode

import (
	"math/bits"
	"slices"
	"strconv"
	"strings"
	"testing"

	"mimesis/api"
	"mimesis/inst"
)

// chapterTable is the chapter's table, in its order: the name, the mask, the match.
const chapterTable = `
lui 0000007f 00000037
auipc 0000007f 00000017
jal 0000007f 0000006f
jalr 0000707f 00000067
beq 0000707f 00000063
bne 0000707f 00001063
blt 0000707f 00004063
bge 0000707f 00005063
bltu 0000707f 00006063
bgeu 0000707f 00007063
lb 0000707f 00000003
lh 0000707f 00001003
lw 0000707f 00002003
lbu 0000707f 00004003
lhu 0000707f 00005003
sb 0000707f 00000023
sh 0000707f 00001023
sw 0000707f 00002023
addi 0000707f 00000013
slti 0000707f 00002013
sltiu 0000707f 00003013
xori 0000707f 00004013
ori 0000707f 00006013
andi 0000707f 00007013
slli fe00707f 00001013
srli fe00707f 00005013
srai fe00707f 40005013
add fe00707f 00000033
sub fe00707f 40000033
sll fe00707f 00001033
slt fe00707f 00002033
sltu fe00707f 00003033
xor fe00707f 00004033
srl fe00707f 00005033
sra fe00707f 40005033
or fe00707f 00006033
and fe00707f 00007033
fence 0000707f 0000000f
fence.i 0000707f 0000100f
ecall ffffffff 00000073
ebreak ffffffff 00100073
csrrw 0000707f 00001073
csrrs 0000707f 00002073
csrrc 0000707f 00003073
csrrwi 0000707f 00005073
csrrsi 0000707f 00006073
csrrci 0000707f 00007073
mret ffffffff 30200073
wfi ffffffff 10500073
mul fe00707f 02000033
mulh fe00707f 02001033
mulhsu fe00707f 02002033
mulhu fe00707f 02003033
div fe00707f 02004033
divu fe00707f 02005033
rem fe00707f 02006033
remu fe00707f 02007033
`

// row is an instruction of the chapter's table.
type row struct {
	op          int
	mask, match uint32
	parts       parts
}

// part is one field of a form: the places of its bits in the word, the lowest first.
// No places: the form does not name it.
type part struct {
	places []int
	low    int // what the lowest place counts: 2^low
	signed bool
}

// parts are the fields of a form.
type parts struct {
	rd, rs1, rs2, csr, imm part
}

// places are those from a down to b, as the chapter tells them, turned round.
func places(a, b int) []int {
	var out []int
	for p := b; p <= a; p++ {
		out = append(out, p)
	}
	return out
}

// chapterParts writes the chapter's fields out as lists of places, so that it shares nothing with the package's shifts.
func chapterParts(form int) parts {
	rd, rs1, rs2 := part{places: places(11, 7)}, part{places: places(19, 15)}, part{places: places(24, 20)}
	csr := part{places: places(31, 20)}
	switch form {
	case inst.FormU:
		return parts{rd: rd, imm: part{places: places(31, 12), low: 12}}
	case inst.FormJ:
		at := slices.Concat(places(30, 21), []int{20}, places(19, 12), []int{31})
		return parts{rd: rd, imm: part{places: at, low: 1, signed: true}}
	case inst.FormI:
		return parts{rd: rd, rs1: rs1, imm: part{places: places(31, 20), signed: true}}
	case inst.FormB:
		at := slices.Concat(places(11, 8), places(30, 25), []int{7}, []int{31})
		return parts{rs1: rs1, rs2: rs2, imm: part{places: at, low: 1, signed: true}}
	case inst.FormS:
		at := slices.Concat(places(11, 7), places(31, 25))
		return parts{rs1: rs1, rs2: rs2, imm: part{places: at, signed: true}}
	case inst.FormR:
		return parts{rd: rd, rs1: rs1, rs2: rs2}
	case inst.FormShift:
		return parts{rd: rd, rs1: rs1, imm: part{places: places(24, 20)}}
	case inst.FormCsr:
		return parts{rd: rd, rs1: rs1, csr: csr}
	case inst.FormCsrI:
		return parts{rd: rd, csr: csr, imm: part{places: places(19, 15)}}
	}
	return parts{}
}

func hexWord(t *testing.T, s string) uint32 {
	t.Helper()
	n, err := strconv.ParseUint(s, 16, 32)
	if err != nil {
		t.Fatal(err)
	}
	return uint32(n)
}

func chapterRows(t *testing.T) []row {
	t.Helper()
	var out []row
	for line := range strings.Lines(strings.TrimSpace(chapterTable)) {
		f := strings.Fields(line)
		op, e := inst.Op(f[0])
		if e != api.OK {
			t.Fatalf("no instruction has the name %q", f[0])
		}
		form, _ := inst.Form(op)
		out = append(out, row{op, hexWord(t, f[1]), hexWord(t, f[2]), chapterParts(form)})
	}
	if len(out) != api.Ops-1 {
		t.Fatalf("the test has %d rows; want %d", len(out), api.Ops-1)
	}
	return out
}

// put answers w with the part holding n.
func (p part) put(w uint32, n int) uint32 {
	for i, at := range p.places {
		w &^= 1 << at
		if n>>(p.low+i)&1 == 1 {
			w |= 1 << at
		}
	}
	return w
}

// get answers what the part holds in w.
func (p part) get(w uint32) int {
	n, weight := 0, 1<<p.low
	for _, at := range p.places {
		if w&(1<<at) != 0 {
			n += weight
		}
		weight *= 2
	}
	if p.signed && n >= weight/2 {
		n -= weight
	}
	return n
}

// edges are the least and the greatest that the part can hold, 0, -1 or the nearest to it, and each single bit.
func (p part) edges() []int {
	if len(p.places) == 0 {
		return []int{0}
	}
	step, end := 1<<p.low, 1<<(p.low+len(p.places))
	out := []int{0, step, end - step}
	for i := range p.places {
		out = append(out, step<<i)
	}
	if p.signed {
		out = []int{0, step, -step, -2 * step, -end / 2, step - end/2, end/2 - step}
		for i := range len(p.places) - 1 {
			out = append(out, step<<i)
		}
	}
	slices.Sort(out)
	return slices.Compact(out)
}

// ends are the first and the last of a part's edges, 0 and the ones beside it.
func (p part) ends() []int {
	l := p.edges()
	out := []int{l[0], l[len(l)-1]}
	at := slices.Index(l, 0)
	out = append(out, l[max(at-1, 0):min(at+2, len(l))]...)
	slices.Sort(out)
	return slices.Compact(out)
}

// pair is an instruction and the word that it has.
type pair struct {
	w uint32
	i api.Instr
}

// pairOf lays the parts into a row's match.
func (r row) pairOf(rd, rs1, rs2, csr, imm int) pair {
	w := r.parts.rd.put(r.match, rd)
	w = r.parts.rs1.put(w, rs1)
	w = r.parts.rs2.put(w, rs2)
	w = r.parts.csr.put(w, csr)
	w = r.parts.imm.put(w, imm)
	return pair{w, api.Instr{Op: r.op, Rd: rd, Rs1: rs1, Rs2: rs2, Imm: uint32(imm), Csr: csr}}
}

// pairs are a row's instructions, with the ends of all parts against each other.
func (r row) pairs() []pair {
	var out []pair
	for _, rd := range r.parts.rd.ends() {
		for _, rs1 := range r.parts.rs1.ends() {
			for _, rs2 := range r.parts.rs2.ends() {
				for _, csr := range r.parts.csr.ends() {
					for _, imm := range r.parts.imm.edges() {
						out = append(out, r.pairOf(rd, rs1, rs2, csr, imm))
					}
				}
			}
		}
	}
	return out
}

// chapterDecode reads w by the chapter's table and lists of places.
func chapterDecode(rows []row, w uint32) api.Instr {
	for _, r := range rows {
		if w&r.mask == r.match {
			p := r.parts
			return api.Instr{Op: r.op, Rd: p.rd.get(w), Rs1: p.rs1.get(w), Rs2: p.rs2.get(w), Imm: uint32(p.imm.get(w)), Csr: p.csr.get(w)}
		}
	}
	return api.Instr{}
}

// mixed answers n words in a fixed row without a pattern that the masks share.
func mixed(n int) []uint32 {
	var out []uint32
	x := uint64(1)
	for range n {
		x = x*6364136223846793005 + 1442695040888963407
		out = append(out, uint32(x>>32))
	}
	return out
}

// sampleWords are the edges, each row's match with all single bits turned and with mixed fields, and mixed words.
func sampleWords(rows []row) []uint32 {
	out := []uint32{0, 1, 0x7fffffff, 0x80000000, 0xffffffff}
	mix := mixed(5000)
	for _, r := range rows {
		out = append(out, r.match, r.match|^r.mask)
		for b := range 32 {
			out = append(out, r.match^1<<b, (r.match|^r.mask)^1<<b)
		}
		for _, x := range mix[:200] {
			out = append(out, r.match|x&^r.mask)
		}
	}
	return append(out, mix...)
}

func wantNone(t *testing.T, w uint32) {
	t.Helper()
	if got := Decode(w); got != (api.Instr{}) {
		t.Errorf("Decode(%08x) = %+v; want Illegal with all else 0", w, got)
	}
	if Legal(w) {
		t.Errorf("Legal(%08x) = true; want false", w)
	}
}

// P3.1
func TestDecodeNamedWords(t *testing.T) {
	cases := []pair{
		{0x00a00093, api.Instr{Op: api.Addi, Rd: 1, Imm: 10}},
		{0xfff00113, api.Instr{Op: api.Addi, Rd: 2, Imm: 0xffffffff}},
		{0x80000013, api.Instr{Op: api.Addi, Imm: 0xfffff800}},
		{0x7ff00013, api.Instr{Op: api.Addi, Imm: 2047}},
		{0xfffff0b7, api.Instr{Op: api.Lui, Rd: 1, Imm: 0xfffff000}},
		{0x00001f97, api.Instr{Op: api.Auipc, Rd: 31, Imm: 0x1000}},
		{0x8000006f, api.Instr{Op: api.Jal, Imm: 0xfff00000}},
		{0x7ffff0ef, api.Instr{Op: api.Jal, Rd: 1, Imm: 0xffffe}},
		{0xfffff06f, api.Instr{Op: api.Jal, Imm: 0xfffffffe}},
		{0x0010006f, api.Instr{Op: api.Jal, Imm: 0x800}},
		{0x0000106f, api.Instr{Op: api.Jal, Imm: 0x1000}},
		{0x00008067, api.Instr{Op: api.Jalr, Rs1: 1}},
		{0x000000e3, api.Instr{Op: api.Beq, Imm: 0x800}},
		{0x80000063, api.Instr{Op: api.Beq, Imm: 0xfffff000}},
		{0xfe209ee3, api.Instr{Op: api.Bne, Rs1: 1, Rs2: 2, Imm: 0xfffffffc}},
		{0x7e000fe3, api.Instr{Op: api.Beq, Imm: 4094}},
		{0xfe512e23, api.Instr{Op: api.Sw, Rs1: 2, Rs2: 5, Imm: 0xfffffffc}},
		{0x7e000fa3, api.Instr{Op: api.Sb, Imm: 2047}},
		{0x01f0df93, api.Instr{Op: api.Srli, Rd: 31, Rs1: 1, Imm: 31}},
		{0x41f0df93, api.Instr{Op: api.Srai, Rd: 31, Rs1: 1, Imm: 31}},
		{0x41f0df33, api.Instr{Op: api.Sra, Rd: 30, Rs1: 1, Rs2: 31}},
		{0xfff02073, api.Instr{Op: api.Csrrs, Csr: 4095}},
		{0x000fe0f3, api.Instr{Op: api.Csrrsi, Rd: 1, Imm: 31}},
		{0x0ff0000f, api.Instr{Op: api.Fence, Imm: 255}},
		{0xfffff00f, api.Instr{}},
		{0xffff900f, api.Instr{Op: api.FenceI, Rs1: 31, Imm: 0xffffffff}},
		{0x00000073, api.Instr{Op: api.Ecall}},
		{0x00100073, api.Instr{Op: api.Ebreak}},
		{0x30200073, api.Instr{Op: api.Mret}},
		{0x10500073, api.Instr{Op: api.Wfi}},
	}
	for _, c := range cases {
		if got := Decode(c.w); got != c.i {
			t.Errorf("Decode(%08x) = %+v; want %+v", c.w, got, c.i)
		}
		if got, want := Legal(c.w), c.i.Op != api.Illegal; got != want {
			t.Errorf("Legal(%08x) = %v; want %v", c.w, got, want)
		}
	}
}

// P3.1
func TestEveryInstructionAtItsEdges(t *testing.T) {
	for _, r := range chapterRows(t) {
		for _, p := range r.pairs() {
			if got := Decode(p.w); got != p.i {
				t.Fatalf("Decode(%08x) = %+v; want %+v", p.w, got, p.i)
			}
			if !Legal(p.w) {
				t.Fatalf("Legal(%08x) = false; want true", p.w)
			}
		}
	}
}

// The edges that the test above goes through are those that the forms have (layer 2).
func TestEdgesOfParts(t *testing.T) {
	cases := []struct {
		form, least, most, belowZero int
	}{
		{inst.FormU, 0, 0xfffff000, 0},
		{inst.FormJ, -1 << 20, 1<<20 - 2, -2},
		{inst.FormI, -2048, 2047, -1},
		{inst.FormB, -4096, 4094, -2},
		{inst.FormS, -2048, 2047, -1},
		{inst.FormShift, 0, 31, 0},
		{inst.FormCsrI, 0, 31, 0},
	}
	for _, c := range cases {
		l := chapterParts(c.form).imm.edges()
		if l[0] != c.least || l[len(l)-1] != c.most || !slices.Contains(l, c.belowZero) || !slices.Contains(l, 0) {
			t.Errorf("form %d: %v", c.form, l)
		}
	}
	csr, rd := chapterParts(inst.FormCsr).csr.ends(), chapterParts(inst.FormR).rd.ends()
	if csr[0] != 0 || csr[len(csr)-1] != 4095 || rd[0] != 0 || rd[len(rd)-1] != 31 {
		t.Errorf("Csr %v, Rd %v", csr, rd)
	}
}

// P3.1
func TestEveryRegister(t *testing.T) {
	for _, r := range chapterRows(t) {
		for n := range 32 {
			p := r.pairOf(n&r.parts.rd.most(), (31-n)&r.parts.rs1.most(), (n^5)&r.parts.rs2.most(), 0, 0)
			if got := Decode(p.w); got != p.i {
				t.Errorf("Decode(%08x) = %+v; want %+v", p.w, got, p.i)
			}
		}
	}
}

func (p part) most() int {
	return 1<<len(p.places) - 1
}

// P3.1
func TestWordsThatAreNones(t *testing.T) {
	for _, w := range []uint32{
		0, 0xffffffff,
		0x000000f3, 0x00008073, 0x00200073, 0x80000073, // ecall with a bit of Rd, Rs1, Rs2, the top set
		0x001000f3, 0x00108073, 0x302000f3, 0x30208073, 0x10508073, 0x105000f3,
		0x10200073, 0x00004073, // sret; the one function of this kind that nobody has
		0x02009093, 0x0200d093, 0x40001013, 0x42005013, 0xc0005013,
		0x40001033, 0x40002033, 0x40007033, 0x42000033, 0x04000033, 0x80000033, 0xfe000033,
		0x00003003, 0x00006003, 0x00007003, // ld, lwu
		0x00003023, 0x00004023, 0x00007023,
		0x00002063, 0x00003063, 0x00001067, 0x00007067,
		0x0000200f, 0x0000700f,
		0x0000001b, 0x0000003b, 0x0000002f, 0x00000007, 0x00000027, 0x00000053, // wide, atomic, float
		0x00000001, 0x00000002, 0x00000010, 0x00000012, 0x00000011, // short ones' lowest bits
	} {
		wantNone(t, w)
	}
}

// P3.1
func TestOneBitOfAMaskTurned(t *testing.T) {
	rows := chapterRows(t)
	nones := 0
	for _, r := range rows {
		for b := range 32 {
			for _, w := range []uint32{r.match, r.match | ^r.mask} {
				w ^= 1 << b
				i := chapterDecode(rows, w)
				if r.mask>>b&1 == 1 && i.Op == r.op {
					t.Fatalf("the test has %08x as one of Op %d", w, r.op)
				}
				if i.Op == api.Illegal {
					nones++
					wantNone(t, w)
				} else if got := Decode(w); got != i || !Legal(w) {
					t.Errorf("Decode(%08x) = %+v, Legal %v; want %+v", w, got, Legal(w), i)
				}
			}
		}
	}
	if nones < 500 {
		t.Errorf("only %d of these words are none's", nones)
	}
}

// P3.1, P3.2: with every bit that a mask of the table may hold, but those of whole words, against each other.
func TestEveryMaskedPart(t *testing.T) {
	rows := chapterRows(t)
	for _, fields := range []uint32{0, 0x01ff8f80, 0x01298a80} {
		for n := range uint32(1 << 17) {
			w := n&0x7f | n>>7&7<<12 | n>>10<<25 | fields
			got, i := Decode(w), chapterDecode(rows, w)
			if got != i {
				t.Fatalf("Decode(%08x) = %+v; want %+v", w, got, i)
			}
			if Legal(w) != (i.Op != api.Illegal) {
				t.Fatalf("Legal(%08x) = %v; want %v", w, Legal(w), !Legal(w))
			}
			if !inst.Right(got) {
				t.Fatalf("Decode(%08x) = %+v, which is not right", w, got)
			}
		}
	}
}

// P3.1: the words of Ecall's kind without a function are told by all of their bits.
func TestEveryWholeWord(t *testing.T) {
	ops := map[uint32]int{0x073: api.Ecall, 0x00100073: api.Ebreak, 0x30200073: api.Mret, 0x10500073: api.Wfi}
	for top := range uint32(1 << 12) {
		for _, low := range []uint32{0, 1 << 7, 1 << 11, 1 << 15, 1 << 19, 0xf8f80} {
			w := top<<20 | low | 0x73
			if got := Decode(w); got != (api.Instr{Op: ops[w]}) || Legal(w) != (ops[w] != 0) {
				t.Fatalf("Decode(%08x) = %+v, Legal %v; want Op %d alone", w, got, Legal(w), ops[w])
			}
		}
	}
}

// P3.1
func TestManyWords(t *testing.T) {
	rows := chapterRows(t)
	for _, w := range sampleWords(rows) {
		i := chapterDecode(rows, w)
		if got := Decode(w); got != i {
			t.Fatalf("Decode(%08x) = %+v; want %+v", w, got, i)
		}
		if Legal(w) != (i.Op != api.Illegal) {
			t.Fatalf("Legal(%08x) = %v; want %v", w, Legal(w), !Legal(w))
		}
	}
}

// P3.1
func TestAll(t *testing.T) {
	for _, none := range [][]uint32{nil, {}} {
		if got := All(none); len(got) != 0 {
			t.Errorf("All(%v) = %v; want none", none, got)
		}
	}
	if got := All([]uint32{0x00a00093}); !slices.Equal(got, []api.Instr{{Op: api.Addi, Rd: 1, Imm: 10}}) {
		t.Errorf("All of one word: %v", got)
	}
	if got := All([]uint32{0}); !slices.Equal(got, []api.Instr{{}}) {
		t.Errorf("All of one word that is none's: %v", got)
	}
	words := []uint32{0x73, 0, 0x00a00093, 0xffffffff, 0x00a00093, 0x30200073}
	wanted := []api.Instr{{Op: api.Ecall}, {}, {Op: api.Addi, Rd: 1, Imm: 10}, {}, {Op: api.Addi, Rd: 1, Imm: 10}, {Op: api.Mret}}
	if got := All(words); !slices.Equal(got, wanted) {
		t.Errorf("All(%x) = %v; want %v", words, got, wanted)
	}
}

// P3.1
func TestAllOfManyInOrder(t *testing.T) {
	rows := chapterRows(t)
	words := sampleWords(rows)
	got := All(words)
	if len(got) != len(words) {
		t.Fatalf("All of %d words tells %d", len(words), len(got))
	}
	for n, w := range words {
		if i := chapterDecode(rows, w); got[n] != i {
			t.Fatalf("All: at %d, of %08x, %+v; want %+v", n, w, got[n], i)
		}
	}
}

// P3.1: what is handed in is left alone, also behind its end, and answers share no memory.
func TestAllLeavesItsWords(t *testing.T) {
	room := []uint32{0x73, 0x00a00093, 0x12345678, 0x9abcdef0}
	first := All(room[:2])
	if !slices.Equal(room, []uint32{0x73, 0x00a00093, 0x12345678, 0x9abcdef0}) {
		t.Errorf("the words are %x behind the call", room)
	}
	clear(first)
	room[0] = 0
	if got := All([]uint32{0x73, 0x00a00093}); got[0].Op != api.Ecall || got[1].Op != api.Addi {
		t.Errorf("a second answer shares memory with the first: %v", got)
	}
}

// P3.2
func TestWhatIsToldIsRight(t *testing.T) {
	words := append(sampleWords(chapterRows(t)), mixed(200000)...)
	for _, w := range words {
		for _, v := range []uint32{w, w&^0x7f | 0x13, w&^0x7f | 0x73, w | 3} {
			if i := Decode(v); !inst.Right(i) {
				t.Fatalf("Decode(%08x) = %+v, which is not right", v, i)
			}
		}
	}
}

// P3.3
func TestNoTwoWordsAreOneInstruction(t *testing.T) {
	seen := map[api.Instr]uint32{}
	for _, w := range sampleWords(chapterRows(t)) {
		i := Decode(w)
		if i.Op == api.Illegal {
			continue
		}
		if v, ok := seen[i]; ok && v != w {
			t.Fatalf("%08x and %08x are both %+v", v, w, i)
		}
		seen[i] = w
	}
	if len(seen) < 10000 {
		t.Errorf("only %d of these words are instructions'", len(seen))
	}
}

// P3.3
func TestEveryBitCounts(t *testing.T) {
	for _, w := range sampleWords(chapterRows(t)) {
		i := Decode(w)
		if i.Op == api.Illegal {
			continue
		}
		for b := range 32 {
			if Decode(w^1<<b) == i {
				t.Fatalf("%08x and %08x are both %+v", w, w^1<<b, i)
			}
		}
	}
}

// P3.3: a form's bits and the mask's are all the bits that there are, each once.
func TestFieldsAndMaskAreTheWord(t *testing.T) {
	for _, r := range chapterRows(t) {
		held, n := r.mask, bits.OnesCount32(r.mask)
		for _, p := range []part{r.parts.rd, r.parts.rs1, r.parts.rs2, r.parts.csr, r.parts.imm} {
			for _, at := range p.places {
				held |= 1 << at
				n++
			}
		}
		if held != 0xffffffff || n != 32 {
			t.Errorf("Op %d: bits %08x, %d of them", r.op, held, n)
		}
	}
}
