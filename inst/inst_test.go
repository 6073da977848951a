package inst

import (
	"fmt"
	"math"
	"slices"
	"strings"
	"testing"

	"mimesis/api"
)

// chapterNames are the names as the chapter lists them, by Op from 0 on.
const chapterNames = "illegal lui auipc jal jalr beq bne blt bge bltu bgeu lb lh lw lbu lhu sb sh sw addi slti sltiu xori ori andi slli srli srai add sub sll slt sltu xor srl sra or and fence fence.i ecall ebreak csrrw csrrs csrrc csrrwi csrrsi csrrci mret wfi mul mulh mulhsu mulhu div divu rem remu"

// kind is a row of the chapter's table of forms.
type kind struct {
	form              int
	ops               []int
	rd, rs1, rs2, csr bool
	imms, wrong       []uint32 // what Imm may be, and what it may not, edges first
}

func signed(n int) uint32 {
	return uint32(int32(n))
}

func words(l ...int) []uint32 {
	var out []uint32
	for _, n := range l {
		out = append(out, signed(n))
	}
	return out
}

func from(first, last int) []int {
	var out []int
	for op := first; op <= last; op++ {
		out = append(out, op)
	}
	return out
}

// chapterKinds writes the table out anew, so that it shares nothing with the package's one.
func chapterKinds() []kind {
	no := words(1, 2, -1, math.MinInt32, math.MaxInt32)
	small := words(0, 1, 2, 15, 16, 30, 31)
	notSmall := words(32, 33, 64, 4096, -1, -32, math.MinInt32, math.MaxInt32)
	short := words(0, 1, 2, -1, -2, 2046, 2047, -2047, -2048)
	notShort := words(2048, 2049, 4095, 4096, -2049, -2050, -4096, math.MinInt32, math.MaxInt32)
	return []kind{
		{form: 0, ops: []int{api.Illegal, api.Ecall, api.Ebreak, api.Mret, api.Wfi}, imms: words(0), wrong: no},
		{form: 1, ops: []int{api.Lui, api.Auipc}, rd: true,
			imms:  words(0, 0x1000, 0x7ffff000, math.MinInt32, -0x1000, 0x12345000),
			wrong: words(1, 2, 0x800, 0xfff, 0x1001, 0x1800, -1, -2, -0x800, 0x7fffffff)},
		{form: 2, ops: []int{api.Jal}, rd: true,
			imms:  words(0, 2, 4, -2, -4, 1048574, 1048572, -1048576, -1048574),
			wrong: words(1, -1, 3, 1048573, 1048575, 1048576, 1048578, -1048575, -1048577, -1048578, 0x1ffffe, 0x200000, math.MinInt32, math.MaxInt32-1)},
		{form: 3, ops: slices.Concat([]int{api.Jalr}, from(api.Lb, api.Lhu), from(api.Addi, api.Andi), []int{api.Fence, api.FenceI}),
			rd: true, rs1: true, imms: short, wrong: notShort},
		{form: 4, ops: from(api.Beq, api.Bgeu), rs1: true, rs2: true,
			imms:  words(0, 2, 4, -2, -4, 4094, 4092, -4096, -4094),
			wrong: words(1, -1, 3, 4093, 4095, 4096, 4098, -4095, -4097, -4098, 0x1ffe, 0x2000, math.MinInt32, math.MaxInt32-1)},
		{form: 5, ops: []int{api.Sb, api.Sh, api.Sw}, rs1: true, rs2: true, imms: short, wrong: notShort},
		{form: 6, ops: slices.Concat(from(api.Add, api.And), from(api.Mul, api.Remu)), rd: true, rs1: true, rs2: true, imms: words(0), wrong: no},
		{form: 7, ops: []int{api.Slli, api.Srli, api.Srai}, rd: true, rs1: true, imms: small, wrong: notSmall},
		{form: 8, ops: []int{api.Csrrw, api.Csrrs, api.Csrrc}, rd: true, rs1: true, csr: true, imms: words(0), wrong: no},
		{form: 9, ops: []int{api.Csrrwi, api.Csrrsi, api.Csrrci}, rd: true, csr: true, imms: small, wrong: notSmall},
	}
}

// noOps are numbers of no instruction.
func noOps() []int {
	return []int{math.MinInt, math.MinInt + 1, math.MinInt32, -58, -2, -1, 58, 59, 64, 128, 255, 256, 1 << 16, math.MaxInt32, 1 << 32, 1<<32 + 1, math.MaxInt - 1, math.MaxInt}
}

// places are what may be in a part that goes up to last, or 0 alone, if there is no such part.
func places(has bool, last int) []int {
	if !has {
		return []int{0}
	}
	return []int{0, 1, 2, last / 2, last - 1, last}
}

// notPlaces are what may not be in such a part.
func notPlaces(has bool, last int) []int {
	out := []int{math.MinInt, math.MinInt32, -last - 1, -last, -2, -1, last + 1, last + 2, 2*last + 1, 1 << 16, 1 << 32, 1<<32 + 1, math.MaxInt}
	if !has {
		out = append(out, 1, 2, last)
	}
	return out
}

// rightOnes are right instructions of an Op, with all edges against each other.
func rightOnes(k kind, op int) []api.Instr {
	var out []api.Instr
	for _, rd := range places(k.rd, 31) {
		for _, rs1 := range places(k.rs1, 31) {
			for _, rs2 := range places(k.rs2, 31) {
				for _, csr := range places(k.csr, 4095) {
					for _, imm := range k.imms {
						out = append(out, api.Instr{Op: op, Rd: rd, Rs1: rs1, Rs2: rs2, Imm: imm, Csr: csr})
					}
				}
			}
		}
	}
	return out
}

// wrongOnes are i with one part of it put wrong.
func wrongOnes(k kind, i api.Instr) []api.Instr {
	var out []api.Instr
	for _, n := range notPlaces(k.rd, 31) {
		j := i
		j.Rd = n
		out = append(out, j)
	}
	for _, n := range notPlaces(k.rs1, 31) {
		j := i
		j.Rs1 = n
		out = append(out, j)
	}
	for _, n := range notPlaces(k.rs2, 31) {
		j := i
		j.Rs2 = n
		out = append(out, j)
	}
	for _, n := range notPlaces(k.csr, 4095) {
		j := i
		j.Csr = n
		out = append(out, j)
	}
	for _, n := range k.wrong {
		j := i
		j.Imm = n
		out = append(out, j)
	}
	for _, n := range noOps() {
		j := i
		j.Op = n
		out = append(out, j)
	}
	return out
}

// someWrongOnes are the wrong ones beside the least, a middle and the greatest right instruction of each Op.
func someWrongOnes() []api.Instr {
	var out []api.Instr
	for _, k := range chapterKinds() {
		for _, op := range k.ops {
			l := rightOnes(k, op)
			for _, i := range []api.Instr{l[0], l[len(l)/2], l[len(l)-1]} {
				out = append(out, wrongOnes(k, i)...)
			}
		}
	}
	return out
}

// P2.1
func TestFormOfEveryOp(t *testing.T) {
	seen := map[int]bool{}
	for _, k := range chapterKinds() {
		for _, op := range k.ops {
			seen[op] = true
			if got, e := Form(op); got != k.form || e != api.OK {
				t.Errorf("Form(%d) = %d, %v; want %d", op, got, e, k.form)
			}
		}
	}
	if len(seen) != api.Ops {
		t.Errorf("the table of the test has %d instructions; want %d", len(seen), api.Ops)
	}
}

// P2.1
func TestNumbersOfForms(t *testing.T) {
	got := []int{FormNone, FormU, FormJ, FormI, FormB, FormS, FormR, FormShift, FormCsr, FormCsrI}
	if want := from(0, 9); !slices.Equal(got, want) {
		t.Errorf("the forms are %v; want %v", got, want)
	}
}

// P2.1
func TestNameOfEveryOp(t *testing.T) {
	want := strings.Fields(chapterNames)
	if len(want) != api.Ops {
		t.Fatalf("the test has %d names; want %d", len(want), api.Ops)
	}
	for op, name := range want {
		if got, e := Name(op); got != name || e != api.OK {
			t.Errorf("Name(%d) = %q, %v; want %q", op, got, e, name)
		}
	}
}

// P2.1
func TestOpOfEveryName(t *testing.T) {
	for op, name := range strings.Fields(chapterNames) {
		if got, e := Op(name); got != op || e != api.OK {
			t.Errorf("Op(%q) = %d, %v; want %d", name, got, e, op)
		}
	}
}

// P2.1
func TestOpsThatThereAreNot(t *testing.T) {
	for _, op := range noOps() {
		if got, e := Form(op); got != 0 || e != api.ErrOp {
			t.Errorf("Form(%d) = %d, %v; want 0, op", op, got, e)
		}
		if got, e := Name(op); got != "" || e != api.ErrOp {
			t.Errorf("Name(%d) = %q, %v; want none, op", op, got, e)
		}
		if Right(api.Instr{Op: op}) {
			t.Errorf("an instruction of Op %d is right", op)
		}
	}
}

func wantNoName(t *testing.T, name string) {
	t.Helper()
	if got, e := Op(name); got != 0 || e != api.ErrNone {
		t.Errorf("Op(%q) = %d, %v; want 0, none", name, got, e)
	}
}

// P2.1
func TestNamesThatAreNones(t *testing.T) {
	for _, name := range []string{"", " ", "\x00", "nop", "li", "mv", "ret", "fencei", "fence_i", "fence.", ".i", "fence.tso", "ld", "lwu", "addiw", "csrr", "sret", "0", "1", "x1", "\xff", "é", chapterNames, strings.Repeat("add", 1000)} {
		wantNoName(t, name)
	}
	for _, name := range strings.Fields(chapterNames) {
		for _, other := range []string{strings.ToUpper(name), strings.ToUpper(name[:1]) + name[1:], name + " ", " " + name, name + "\n", name + "\x00", name + "q", "q" + name, name + name} {
			wantNoName(t, other)
		}
	}
}

// P2.1
func TestPiecesOfNames(t *testing.T) {
	all := strings.Fields(chapterNames)
	for _, name := range all {
		for n := range len(name) {
			if !slices.Contains(all, name[:n]) {
				wantNoName(t, name[:n])
			}
			if !slices.Contains(all, name[n+1:]) {
				wantNoName(t, name[n+1:])
			}
		}
	}
}

// P2.1
func TestRightOnes(t *testing.T) {
	for _, k := range chapterKinds() {
		for _, op := range k.ops {
			for _, i := range rightOnes(k, op) {
				if !Right(i) {
					t.Fatalf("%+v is not right", i)
				}
			}
		}
	}
}

// P2.1
func TestEveryRegisterAndCsr(t *testing.T) {
	for r := range 32 {
		if i := (api.Instr{Op: api.Add, Rd: r, Rs1: 31 - r, Rs2: r}); !Right(i) {
			t.Errorf("%+v is not right", i)
		}
	}
	for csr := range 4096 {
		if i := (api.Instr{Op: api.Csrrw, Rd: 1, Rs1: 2, Csr: csr}); !Right(i) {
			t.Errorf("%+v is not right", i)
		}
	}
}

// P2.1
func TestWrongOnes(t *testing.T) {
	for _, i := range someWrongOnes() {
		if Right(i) {
			t.Errorf("%+v is right", i)
		}
	}
}

// P2.1
func TestEveryImmNearTheEdges(t *testing.T) {
	cases := []struct {
		op          int
		first, last int
		step        int
	}{
		{api.Jal, -1 << 20, 1<<20 - 2, 2},
		{api.Addi, -1 << 11, 1<<11 - 1, 1},
		{api.Beq, -1 << 12, 1<<12 - 2, 2},
		{api.Sw, -1 << 11, 1<<11 - 1, 1},
		{api.Srai, 0, 31, 1},
		{api.Csrrsi, 0, 31, 1},
		{api.Add, 0, 0, 1},
		{api.Csrrc, 0, 0, 1},
		{api.Mret, 0, 0, 1},
	}
	for _, c := range cases {
		for n := c.first - 5000; n <= c.last+5000; n++ {
			want := n >= c.first && n <= c.last && n%c.step == 0
			if got := Right(api.Instr{Op: c.op, Imm: signed(n)}); got != want {
				t.Fatalf("Op %d with Imm %d: right is %v; want %v", c.op, n, got, want)
			}
		}
	}
}

// P2.2
func TestEnds(t *testing.T) {
	ends := strings.Fields("illegal jal jalr beq bne blt bge bltu bgeu fence.i ecall ebreak csrrw csrrs csrrc csrrwi csrrsi csrrci mret wfi")
	for op, name := range strings.Fields(chapterNames) {
		if got, want := Ends(op), slices.Contains(ends, name); got != want {
			t.Errorf("Ends of %s = %v; want %v", name, got, want)
		}
	}
	for _, op := range noOps() {
		if !Ends(op) {
			t.Errorf("Ends(%d) = false; want true", op)
		}
	}
}

// P2.2
func TestLoadsAndStores(t *testing.T) {
	loads := map[string]int{"lb": 1, "lbu": 1, "lh": 2, "lhu": 2, "lw": 4}
	stores := map[string]int{"sb": 1, "sh": 2, "sw": 4}
	for op, name := range strings.Fields(chapterNames) {
		if got := Loads(op); got != loads[name] {
			t.Errorf("Loads of %s = %d; want %d", name, got, loads[name])
		}
		if got := Stores(op); got != stores[name] {
			t.Errorf("Stores of %s = %d; want %d", name, got, stores[name])
		}
	}
	for _, op := range noOps() {
		if Loads(op) != 0 || Stores(op) != 0 {
			t.Errorf("Op %d loads %d and stores %d; want 0 and 0", op, Loads(op), Stores(op))
		}
	}
}

// wantReads gathers by marks of all registers, so that it sorts nothing.
func wantReads(k kind, i api.Instr) []int {
	var marks [32]bool
	if i.Op != api.Fence && i.Op != api.FenceI {
		marks[i.Rs1] = k.rs1
		marks[i.Rs2] = marks[i.Rs2] || k.rs2
	}
	var out []int
	for r := 1; r < 32; r++ {
		if marks[r] {
			out = append(out, r)
		}
	}
	return out
}

// P2.3
func TestReadsAndWritesOfRightOnes(t *testing.T) {
	for _, k := range chapterKinds() {
		for _, op := range k.ops {
			for _, i := range rightOnes(k, op) {
				if got, want := Reads(i), wantReads(k, i); !slices.Equal(got, want) {
					t.Fatalf("Reads(%+v) = %v; want %v", i, got, want)
				}
				want := i.Rd
				if op == api.Fence || op == api.FenceI {
					want = 0
				}
				if got := Writes(i); got != want {
					t.Fatalf("Writes(%+v) = %d; want %d", i, got, want)
				}
			}
		}
	}
}

// P2.3
func TestReadsAndWritesNamedInputs(t *testing.T) {
	cases := []struct {
		i      api.Instr
		reads  []int
		writes int
	}{
		{api.Instr{Op: api.Sw, Rs1: 3, Rs2: 4, Imm: 8}, []int{3, 4}, 0},
		{api.Instr{Op: api.Sb, Rs1: 31, Rs2: 1}, []int{1, 31}, 0},
		{api.Instr{Op: api.Add, Rd: 1, Rs1: 9, Rs2: 3}, []int{3, 9}, 1},
		{api.Instr{Op: api.Add, Rd: 31, Rs1: 3, Rs2: 9}, []int{3, 9}, 31},
		{api.Instr{Op: api.Sub, Rd: 5, Rs1: 5, Rs2: 5}, []int{5}, 5},
		{api.Instr{Op: api.Mul, Rd: 2, Rs1: 0, Rs2: 7}, []int{7}, 2},
		{api.Instr{Op: api.Mul, Rd: 2, Rs1: 7, Rs2: 0}, []int{7}, 2},
		{api.Instr{Op: api.Xor, Rd: 2}, nil, 2},
		{api.Instr{Op: api.Xor, Rs1: 1, Rs2: 2}, []int{1, 2}, 0},
		{api.Instr{Op: api.Lui, Rd: 6, Imm: 0x1000}, nil, 6},
		{api.Instr{Op: api.Jal, Rd: 1, Imm: 16}, nil, 1},
		{api.Instr{Op: api.Jal, Imm: 16}, nil, 0},
		{api.Instr{Op: api.Jalr, Rd: 1, Rs1: 5}, []int{5}, 1},
		{api.Instr{Op: api.Lw, Rd: 4, Rs1: 2}, []int{2}, 4},
		{api.Instr{Op: api.Bne, Rs1: 8, Rs2: 6}, []int{6, 8}, 0},
		{api.Instr{Op: api.Beq, Rs1: 8, Rs2: 8}, []int{8}, 0},
		{api.Instr{Op: api.Slli, Rd: 7, Rs1: 9, Imm: 31}, []int{9}, 7},
		{api.Instr{Op: api.Csrrw, Rd: 3, Rs1: 4, Csr: 0x300}, []int{4}, 3},
		{api.Instr{Op: api.Csrrsi, Rd: 3, Imm: 31, Csr: 0x300}, nil, 3},
		{api.Instr{Op: api.Fence, Rd: 3, Rs1: 4, Imm: 255}, nil, 0},
		{api.Instr{Op: api.FenceI, Rd: 3, Rs1: 4}, nil, 0},
		{api.Instr{Op: api.Ecall}, nil, 0},
		{api.Instr{}, nil, 0},
	}
	for _, c := range cases {
		if got := Reads(c.i); !slices.Equal(got, c.reads) {
			t.Errorf("Reads(%+v) = %v; want %v", c.i, got, c.reads)
		}
		if got := Writes(c.i); got != c.writes {
			t.Errorf("Writes(%+v) = %d; want %d", c.i, got, c.writes)
		}
	}
}

// P2.3
func TestEveryPairOfRegistersRead(t *testing.T) {
	for a := range 32 {
		for b := range 32 {
			i := api.Instr{Op: api.Sh, Rs1: a, Rs2: b}
			want := wantReads(kind{rs1: true, rs2: true}, i)
			if got := Reads(i); !slices.Equal(got, want) {
				t.Errorf("Reads(%+v) = %v; want %v", i, got, want)
			}
		}
	}
}

// P2.3
func TestReadsAndWritesOfWrongOnes(t *testing.T) {
	for _, i := range someWrongOnes() {
		if got := Reads(i); len(got) != 0 {
			t.Errorf("Reads(%+v) = %v; want nothing", i, got)
		}
		if got := Writes(i); got != 0 {
			t.Errorf("Writes(%+v) = %d; want 0", i, got)
		}
	}
}

// P2.3
func TestReadsAreNewMemory(t *testing.T) {
	i := api.Instr{Op: api.Add, Rd: 1, Rs1: 9, Rs2: 3}
	clear(Reads(i))
	if got := Reads(i); fmt.Sprint(got) != "[3 9]" {
		t.Errorf("a second answer shares memory with the first: %v", got)
	}
}

// P2.4
func TestNamesAndNumbersThereAndBack(t *testing.T) {
	seen := map[string]int{}
	for op := range api.Ops {
		name, e := Name(op)
		if e != api.OK {
			t.Fatalf("Name(%d) = %q, %v", op, name, e)
		}
		if other, ok := seen[name]; ok {
			t.Errorf("%d and %d are both %q", other, op, name)
		}
		seen[name] = op
		if got, e := Op(name); got != op || e != api.OK {
			t.Errorf("Op(Name(%d)) = %d, %v", op, got, e)
		}
	}
	for _, name := range strings.Fields(chapterNames) {
		op, e := Op(name)
		if e != api.OK {
			t.Fatalf("Op(%q) = %d, %v", name, op, e)
		}
		if got, e := Name(op); got != name || e != api.OK {
			t.Errorf("Name(Op(%q)) = %q, %v", name, got, e)
		}
	}
}
