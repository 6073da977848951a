package mask

import (
	"math"
	"slices"
	"strings"
	"testing"

	"mimesis/api"
)

// chapterTable is the chapter's table, with what it says of being written told out for each.
var chapterTable = []struct {
	name        string
	number      int
	kept, fixed uint32
	fast        bool
}{
	{"mstatus", 0x300, 0x88, 0x1800, false},
	{"misa", 0x301, 0x0, 0x40001100, false},
	{"mie", 0x304, 0x888, 0x0, false},
	{"mtvec", 0x305, 0xfffffffd, 0x0, false},
	{"mscratch", 0x340, 0xffffffff, 0x0, false},
	{"mepc", 0x341, 0xfffffffc, 0x0, false},
	{"mcause", 0x342, 0xffffffff, 0x0, false},
	{"mtval", 0x343, 0xffffffff, 0x0, false},
	{"mip", 0x344, 0x0, 0x0, false},
	{"mcycle", 0xb00, 0xffffffff, 0x0, false},
	{"minstret", 0xb02, 0xffffffff, 0x0, false},
	{"mcycleh", 0xb80, 0xffffffff, 0x0, false},
	{"minstreth", 0xb82, 0xffffffff, 0x0, false},
	{"cycle", 0xc00, 0x0, 0x0, true},
	{"time", 0xc01, 0x0, 0x0, true},
	{"instret", 0xc02, 0x0, 0x0, true},
	{"cycleh", 0xc80, 0x0, 0x0, true},
	{"timeh", 0xc81, 0x0, 0x0, true},
	{"instreth", 0xc82, 0x0, 0x0, true},
	{"mvendorid", 0xf11, 0x0, 0x0, true},
	{"marchid", 0xf12, 0x0, 0x0, true},
	{"mimpid", 0xf13, 0x0, 0x0, true},
	{"mhartid", 0xf14, 0x0, 0x0, true},
}

// chapterReg answers what Find must answer.
func chapterReg(number int) (Reg, api.Errno) {
	for _, r := range chapterTable {
		if r.number == number {
			return Reg{r.name, r.kept, r.fixed, r.fast}, api.OK
		}
	}
	return Reg{}, api.ErrNone
}

func chapterNumbers() []int {
	var out []int
	for _, r := range chapterTable {
		out = append(out, r.number)
	}
	return out
}

// numbers are all of twelve bits, those about them, and others up to the ends of int.
func numbers() []int {
	out := []int{math.MinInt, math.MinInt + 1, math.MinInt32 - 1, math.MinInt32, math.MaxInt32, math.MaxInt32 + 1, math.MaxInt - 1, math.MaxInt}
	for n := -4200; n <= 8300; n++ {
		out = append(out, n)
	}
	// A number whose lowest bits alone are a register's is none.
	for _, r := range chapterTable {
		for _, shift := range []int{8, 12, 16, 31, 32, 62} {
			out = append(out, r.number+1<<shift, r.number-1<<shift)
		}
		out = append(out, r.number+math.MinInt, -r.number, ^r.number)
	}
	slices.Sort(out)
	return slices.Compact(out)
}

// words are edges, and words with all kinds of bits, the same ones each time.
func words() []uint32 {
	out := []uint32{0, 0x88, 0x888, 0x1800, 0x1888, 0xffffe777, 0x40001100, 0xbfffeeff, 0x55555555, 0xaaaaaaaa, 0x80000003}
	for i := range 32 {
		p := uint32(1) << i
		out = append(out, p-1, p, p+1, -p, -p-1, -p+1)
	}
	x := uint64(1)
	for range 1000 {
		x = x*6364136223846793005 + 1442695040888963407
		out = append(out, uint32(x>>32))
	}
	return out
}

// The tests go by the table: nothing in it may be twice, and what is told out of being written is what the number's bits say.
func TestTableIsWhole(t *testing.T) {
	if len(chapterTable) != 23 {
		t.Errorf("the table has %d", len(chapterTable))
	}
	names := map[string]int{}
	for i, r := range chapterTable {
		if i > 0 && r.number <= chapterTable[i-1].number {
			t.Errorf("%s: %#x does not rise", r.name, r.number)
		}
		if r.fast != (r.number/1024%4 == 3) {
			t.Errorf("%s: %v", r.name, r.fast)
		}
		names[r.name]++
	}
	if len(names) != len(chapterTable) {
		t.Errorf("the table has %d names", len(names))
	}
}

// P9.1
func TestFindAnswersTheTable(t *testing.T) {
	found := 0
	for _, n := range numbers() {
		want, wantErr := chapterReg(n)
		got, err := Find(n)
		if got != want || err != wantErr {
			t.Errorf("Find(%#x): %+v %v, want %+v %v", n, got, err, want, wantErr)
		}
		if err == api.OK {
			found++
		}
	}
	if found != len(chapterTable) {
		t.Errorf("%d found", found)
	}
}

// P9.1
func TestLegalKeepsAndFixes(t *testing.T) {
	for _, r := range chapterTable {
		for _, w := range words() {
			got, err := Legal(r.number, w)
			if err != api.OK {
				t.Fatalf("Legal(%s, %#x): %v", r.name, w, err)
			}
			for bit := range 32 {
				p := uint32(1) << bit
				want := r.fixed&p != 0 || r.kept&p != 0 && w&p != 0
				if (got&p != 0) != want {
					t.Fatalf("Legal(%s, %#x): %#x, wrong in bit %d", r.name, w, got, bit)
				}
			}
		}
	}
}

// P9.1, in words that are written out.
func TestLegalByHand(t *testing.T) {
	for _, c := range []struct {
		csr     int
		w, want uint32
	}{
		{0x300, 0xffffffff, 0x1888}, {0x300, 0, 0x1800}, {0x300, 0x8, 0x1808}, {0x300, 0x80, 0x1880}, {0x300, 1, 0x1800}, {0x300, 0x80000000, 0x1800},
		{0x301, 0, 0x40001100}, {0x301, 0xffffffff, 0x40001100},
		{0x304, 0xffffffff, 0x888}, {0x304, 0x777, 0},
		{0x305, 0xffffffff, 0xfffffffd}, {0x305, 2, 0}, {0x305, 3, 1}, {0x305, 0x80000001, 0x80000001},
		{0x340, 0xffffffff, 0xffffffff}, {0x340, 0x12345678, 0x12345678},
		{0x341, 0x80000003, 0x80000000}, {0x341, 4, 4},
		{0x342, 0x8000000b, 0x8000000b}, {0x343, 0x89abcdef, 0x89abcdef},
		{0x344, 0xffffffff, 0},
		{0xb00, 0xffffffff, 0xffffffff}, {0xb02, 7, 7}, {0xb80, 0x80000000, 0x80000000}, {0xb82, 1, 1},
		{0xc00, 0xffffffff, 0}, {0xc01, 1, 0}, {0xc82, 0x88, 0},
		{0xf11, 0xffffffff, 0}, {0xf14, 0x1800, 0},
	} {
		if got, err := Legal(c.csr, c.w); err != api.OK || got != c.want {
			t.Errorf("Legal(%#x, %#x): %#x %v, want %#x", c.csr, c.w, got, err, c.want)
		}
	}
}

// P9.1
func TestLegalOfOthersIsErrNone(t *testing.T) {
	for _, n := range numbers() {
		if slices.Contains(chapterNumbers(), n) {
			continue
		}
		for _, w := range []uint32{0, 1, 0x88, 0x1800, 0x80000000, 0xffffffff} {
			if got, err := Legal(n, w); err != api.ErrNone || got != 0 {
				t.Fatalf("Legal(%#x, %#x): %#x %v", n, w, got, err)
			}
		}
	}
}

// P9.1
func TestNumbersAreAllAndRise(t *testing.T) {
	got := Numbers()
	if !slices.Equal(got, chapterNumbers()) {
		t.Errorf("%x", got)
	}
	if !slices.IsSorted(got) {
		t.Errorf("%x do not rise", got)
	}
}

// P9.1: what is answered is new.
func TestNumbersAreHandedOutAnew(t *testing.T) {
	first, second := Numbers(), Numbers()
	for i := range first {
		first[i] = -1
	}
	_ = append(first[:0], make([]int, cap(first))...)
	if !slices.Equal(second, chapterNumbers()) {
		t.Errorf("a list that was there: %x", second)
	}
	if third := Numbers(); !slices.Equal(third, chapterNumbers()) {
		t.Errorf("the next list: %x", third)
	}
	if r, err := Find(0x300); err != api.OK || r.Name != "mstatus" {
		t.Errorf("%+v %v", r, err)
	}
}

// P9.1
func TestNumberOfEachName(t *testing.T) {
	for _, r := range chapterTable {
		if n, err := Number(r.name); err != api.OK || n != r.number {
			t.Errorf("Number(%q): %#x %v", r.name, n, err)
		}
	}
}

// otherNames are texts that are no register's name, most of them near to one.
func otherNames() []string {
	out := []string{"", " ", "0", "768", "0x300", "m", "h", "csr", "x1", "zero", "addi", "satp", "sstatus", "mtime", "mtimecmp", "medeleg", "mconfigptr", "mstatus,", "mstatus mie", "\x00", "\xff", "é", strings.Repeat("mstatus", 1000)}
	for _, r := range chapterTable {
		s := r.name
		out = append(out, s+"x", s+" ", " "+s, s+"\x00", "\t"+s, s+"\n", "x"+s, s+s, s[1:], s[:len(s)-1], s[:1]+s[2:])
		out = append(out, strings.ToUpper(s), strings.ToUpper(s[:1])+s[1:], s[:len(s)-1]+strings.ToUpper(s[len(s)-1:]))
		out = append(out, s+"h", "m"+s, "s"+s)
	}
	// A sign less or more may make one name of another: mcycleh, mcycle, cycle.
	return slices.DeleteFunc(out, isName)
}

func isName(s string) bool {
	for _, r := range chapterTable {
		if r.name == s {
			return true
		}
	}
	return false
}

// P9.1
func TestNumberOfOthersIsErrNone(t *testing.T) {
	for _, s := range otherNames() {
		if n, err := Number(s); err != api.ErrNone || n != 0 {
			t.Errorf("Number(%q): %#x %v", s, n, err)
		}
	}
}

// P9.1: a name's number is that of the register that has the name.
func TestNumberIsWhereFindHasTheName(t *testing.T) {
	for _, n := range Numbers() {
		r, err := Find(n)
		if err != api.OK {
			t.Errorf("Find(%#x): %v", n, err)
		}
		if back, err := Number(r.Name); err != api.OK || back != n {
			t.Errorf("Number(%q): %#x %v, want %#x", r.Name, back, err, n)
		}
	}
}

// chapterWrites answers what Writes must answer, whether rs1 and imm are other than 0 being told.
func chapterWrites(op int, rs1, imm bool) bool {
	return map[int]bool{
		api.Csrrw: true, api.Csrrwi: true,
		api.Csrrs: rs1, api.Csrrc: rs1,
		api.Csrrsi: imm, api.Csrrci: imm,
	}[op]
}

// ops are every instruction's number, those about them, and others up to the ends of int.
func ops() []int {
	out := []int{math.MinInt, math.MinInt + 1, math.MinInt32, math.MaxInt32, math.MaxInt - 1, math.MaxInt}
	for op := -300; op <= 300; op++ {
		out = append(out, op)
	}
	// A number whose lowest bits alone are an instruction's is none.
	for op := range api.Ops {
		for _, shift := range []int{8, 16, 32, 62} {
			out = append(out, op+1<<shift, op-1<<shift)
		}
	}
	return out
}

// P9.2
func TestWritesOfEachInstruction(t *testing.T) {
	rs1s := []int{0, 1, 2, 5, 16, 31, 32, 256, 1 << 32, -1, math.MinInt, math.MaxInt}
	imms := []uint32{0, 1, 2, 5, 16, 31, 32, 256, 0x80000000, 0xffffffff}
	for _, op := range ops() {
		for _, rs1 := range rs1s {
			for _, imm := range imms {
				if got, want := Writes(op, rs1, imm), chapterWrites(op, rs1 != 0, imm != 0); got != want {
					t.Errorf("Writes(%d, %d, %d): %v", op, rs1, imm, got)
				}
			}
		}
	}
}

// P9.2, written out.
func TestWritesByHand(t *testing.T) {
	for _, c := range []struct {
		op                        int
		neither, rs1, imm, either bool
	}{
		{api.Csrrw, true, true, true, true},
		{api.Csrrwi, true, true, true, true},
		{api.Csrrs, false, true, false, true},
		{api.Csrrc, false, true, false, true},
		{api.Csrrsi, false, false, true, true},
		{api.Csrrci, false, false, true, true},
		{api.Ebreak, false, false, false, false},
		{api.Mret, false, false, false, false},
		{api.Illegal, false, false, false, false},
		{api.Ops, false, false, false, false},
		{-1, false, false, false, false},
	} {
		got := []bool{Writes(c.op, 0, 0), Writes(c.op, 1, 0), Writes(c.op, 0, 1), Writes(c.op, 1, 1)}
		if !slices.Equal(got, []bool{c.neither, c.rs1, c.imm, c.either}) {
			t.Errorf("%d: %v", c.op, got)
		}
	}
}

// P9.3
func TestLegalStaysLegal(t *testing.T) {
	for _, csr := range chapterNumbers() {
		for _, w := range words() {
			once, err := Legal(csr, w)
			if err != api.OK {
				t.Fatalf("Legal(%#x, %#x): %v", csr, w, err)
			}
			if twice, err := Legal(csr, once); err != api.OK || twice != once {
				t.Fatalf("Legal(%#x, %#x): %#x, then %#x %v", csr, w, once, twice, err)
			}
		}
	}
}
