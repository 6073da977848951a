package image

import (
	"bytes"
	"fmt"
	"math"
	"strings"
	"testing"

	"mimesis/api"
	"mimesis/ram"
)

// The document's numbers, told anew.
const (
	base     = 0x80000000
	mostRam  = 65536
	mostText = 65536
	mostList = 1024
)

// wrongSizes are sizes that no memory has.
var wrongSizes = []int{
	math.MinInt, math.MinInt + 1, math.MinInt + 64, math.MinInt32 - 1, math.MinInt32, -65536, -129, -64, -2, -1, 0, 1, 2, 3, 63, 65, 100,
	65535, 65537, 1 << 17, math.MaxInt32, 1 << 31, 1<<31 + 64, math.MaxUint32, 1 << 32, 1<<32 + 64, 1 << 62, math.MaxInt - 63, math.MaxInt,
}

// mixed answers n bytes of which no two neighbours are alike.
func mixed(n int) []byte {
	out := make([]byte, n)
	for i := range out {
		out[i] = byte(i*7%251 + 3)
	}
	return out
}

// many answers n parts of so many bytes each, all of them at RamBase.
func many(n, each int) []Part {
	out := make([]Part, n)
	for i := range out {
		out[i] = Part{base, mixed(each)}
	}
	return out
}

func same(a, b []Part) bool {
	if len(a) != len(b) {
		return false
	}
	for i := range a {
		if a[i].At != b[i].At || !bytes.Equal(a[i].B, b[i].B) {
			return false
		}
	}
	return true
}

func copied(l []Part) []Part {
	var out []Part
	for _, p := range l {
		out = append(out, Part{p.At, bytes.Clone(p.B)})
	}
	return out
}

// checked answers what Check must answer: of each byte by itself, by numbers that don't wrap round.
func checked(l []Part, size int) api.Errno {
	all := 0
	for _, p := range l {
		all += len(p.B)
	}
	if len(l) > mostList || all > mostRam {
		return api.ErrLong
	}
	for _, p := range l {
		for i := range p.B {
			// Of sizes that no memory has the greatest ones are as good as all addresses behind RamBase.
			if at := int64(p.At) + int64(i); at < base || at-base >= int64(size) {
				return api.ErrFault
			}
		}
	}
	return api.OK
}

func wantCheck(t *testing.T, l []Part, size int, want api.Errno) {
	t.Helper()
	if got := Check(l, size); got != want {
		t.Errorf("Check of %d parts, size %d: %v, want %v", len(l), size, got, want)
	}
	if got := checked(l, size); got != want {
		t.Errorf("told anew, %d parts, size %d: %v, want %v", len(l), size, got, want)
	}
}

// filled answers a memory of n bytes, none of them 0, of which each page is watched.
func filled(t *testing.T, n int) *ram.Ram {
	t.Helper()
	m, err := ram.New(n)
	if err != api.OK {
		t.Fatalf("ram.New(%d): %v", n, err)
	}
	b := make([]byte, n)
	for i := range b {
		b[i] = byte(i%249 + 5)
	}
	if err := m.Fill(base, b); err != api.OK {
		t.Fatalf("Fill: %v", err)
	}
	for p := range n / 64 {
		m.Watch(p)
	}
	return m
}

// wantLay holds Lay against a memory's bytes told anew: all parts are laid, byte by byte, or none.
func wantLay(t *testing.T, size int, l []Part, want api.Errno) {
	t.Helper()
	m := filled(t, size)
	bytesOf, given := m.Bytes(), copied(l)
	if want == api.OK {
		for _, p := range l {
			for i, b := range p.B {
				bytesOf[int64(p.At)+int64(i)-base] = b
			}
		}
	}
	if got := Lay(m, l); got != want {
		t.Errorf("Lay of %d parts, size %d: %v, want %v", len(l), size, got, want)
	}
	if !bytes.Equal(m.Bytes(), bytesOf) {
		t.Errorf("Lay of %d parts, size %d: not the bytes", len(l), size)
	}
	for p := range size / 64 {
		if !m.Watched(p) || m.Gen(p) != 0 {
			t.Errorf("page %d is hit", p)
		}
	}
	if !same(l, given) {
		t.Errorf("the parts are changed")
	}
}

// P15.1: what is the same for Check and for Lay, for each size of a memory that is tried.
func TestCheckAndLay(t *testing.T) {
	for _, size := range []int{64, 128, 192, 4096, 65472, 65536} {
		end := base + uint32(size)
		for _, c := range []struct {
			l    []Part
			want api.Errno
		}{
			{nil, api.OK},
			{[]Part{}, api.OK},
			{[]Part{{0, nil}, {base - 1, []byte{}}, {end, nil}, {end + 1, nil}, {math.MaxUint32, nil}, {base, nil}}, api.OK},
			{[]Part{{base, []byte{1}}}, api.OK},
			{[]Part{{end - 1, []byte{2}}}, api.OK},
			{[]Part{{end - 2, []byte{2, 3}}, {base, []byte{4, 5}}}, api.OK},
			{[]Part{{base, mixed(size)}}, api.OK},
			{[]Part{{base + 1, mixed(size - 1)}}, api.OK},
			{[]Part{{base - 1, []byte{1}}}, api.ErrFault},
			{[]Part{{base - 1, []byte{1, 2}}}, api.ErrFault},
			{[]Part{{base - 64, mixed(64)}}, api.ErrFault},
			{[]Part{{end, []byte{1}}}, api.ErrFault},
			{[]Part{{end - 1, []byte{1, 2}}}, api.ErrFault},
			{[]Part{{end - 3, []byte{1, 2, 3, 4}}}, api.ErrFault},
			{[]Part{{base + 1, mixed(size)}}, api.ErrFault},
			{[]Part{{0, []byte{1}}}, api.ErrFault},
			{[]Part{{end - base - 1, []byte{1}}}, api.ErrFault},
			{[]Part{{math.MaxInt32, []byte{1}}}, api.ErrFault},
			{[]Part{{math.MaxUint32, []byte{1}}}, api.ErrFault},
			{[]Part{{math.MaxUint32, []byte{1, 2}}}, api.ErrFault},
			{[]Part{{math.MaxUint32 - 3, []byte{1, 2, 3, 4}}}, api.ErrFault},
			{[]Part{{base, []byte{1, 2}}, {end, []byte{1}}}, api.ErrFault},
			{[]Part{{end, []byte{1}}, {base, []byte{1, 2}}}, api.ErrFault},
			{[]Part{{base, []byte{1}}, {0, nil}, {end - 1, []byte{1, 2}}, {base + 5, []byte{7}}}, api.ErrFault},
		} {
			wantLay(t, size, c.l, c.want)
			wantCheck(t, c.l, size, c.want)
		}
	}
}

// P15.1: sizes that no memory has.
func TestCheckOfWrongSizes(t *testing.T) {
	for _, size := range wrongSizes {
		for _, at := range []uint32{0, 1, 63, 64, base - 1, base, base + 1, base + 63, base + 64, base + 65535, base + 65536, math.MaxUint32 - 1, math.MaxUint32} {
			for _, n := range []int{0, 1, 2, 63, 64, 65} {
				if int64(at)+int64(n) > 1<<32 {
					// What is behind the greatest address no document tells; Check still ends.
					Check([]Part{{at, mixed(n)}}, size)
					continue
				}
				l := []Part{{at, mixed(n)}}
				if got, want := Check(l, size), checked(l, size); got != want {
					t.Errorf("Check of %d bytes at %#x, size %d: %v, want %v", n, at, size, got, want)
				}
			}
		}
		wantCheck(t, nil, size, api.OK)
		wantCheck(t, many(mostList+1, 0), size, api.ErrLong)
	}
}

// P15.1: ErrLong, ahead of ErrFault.
func TestCheckAtTheLimits(t *testing.T) {
	far := func(l []Part, at uint32) []Part {
		l = copied(l)
		for i := range l {
			l[i].At = at
		}
		return l
	}
	whole := []Part{{base, mixed(mostRam)}}
	wantCheck(t, whole, mostRam, api.OK)
	wantCheck(t, append(copied(whole), Part{base, nil}), mostRam, api.OK)
	wantCheck(t, append(copied(whole), Part{base, []byte{1}}), mostRam, api.ErrLong)
	wantCheck(t, append([]Part{{base, []byte{1}}}, whole...), mostRam, api.ErrLong)
	wantCheck(t, []Part{{base, mixed(mostRam + 1)}}, mostRam, api.ErrLong)
	wantCheck(t, []Part{{base + 1, mixed(mostRam)}}, mostRam, api.ErrFault)
	wantCheck(t, many(1024, 64), mostRam, api.OK)
	wantCheck(t, many(1024, 64), 64, api.OK)
	wantCheck(t, many(1024, 65), mostRam, api.ErrLong)
	wantCheck(t, many(1024, 0), 64, api.OK)
	wantCheck(t, many(1025, 0), 64, api.ErrLong)
	wantCheck(t, many(1025, 1), mostRam, api.ErrLong)
	wantCheck(t, many(2, 32768), mostRam, api.OK)
	wantCheck(t, append(many(2, 32768), many(1, 1)...), mostRam, api.ErrLong)
	for _, at := range []uint32{0, base - 1, base + 64, math.MaxUint32} {
		wantCheck(t, far(many(1024, 64), at), 64, api.ErrFault)
		wantCheck(t, far(many(1025, 1), at), 64, api.ErrLong)
		wantCheck(t, far(many(1025, 0), at), 64, api.ErrLong)
		wantCheck(t, far(many(1024, 65), at), 64, api.ErrLong)
		wantCheck(t, far(append(copied(whole), Part{base, []byte{1}}), at), 64, api.ErrLong)
	}
	// One part far behind the limit's bytes, and one at an address where nothing is ahead of it.
	wantCheck(t, []Part{{0, []byte{1}}, {base, mixed(mostRam)}}, 64, api.ErrLong)
	wantCheck(t, []Part{{base, mixed(mostRam)}, {0, []byte{1}}}, 64, api.ErrLong)
	wantCheck(t, []Part{{base, mixed(10 * mostRam)}}, 64, api.ErrLong)
}

// P15.1: many parts of the same bytes, which are more together than they are in memory.
func TestCheckOfSharedBytes(t *testing.T) {
	b := mixed(1 << 20)
	var l []Part
	for range mostList {
		l = append(l, Part{base, b})
	}
	wantCheck(t, l[:1], mostRam, api.ErrLong)
	if got := Check(l, mostRam); got != api.ErrLong {
		t.Errorf("%v", got)
	}
}

// P15.1
func TestLayOfLimits(t *testing.T) {
	wantLay(t, mostRam, []Part{{base, mixed(mostRam)}}, api.OK)
	wantLay(t, mostRam, []Part{{base, mixed(mostRam)}, {base + 7, nil}}, api.OK)
	wantLay(t, mostRam, []Part{{base, mixed(mostRam)}, {base + 7, []byte{1}}}, api.ErrLong)
	wantLay(t, mostRam, []Part{{base, mixed(mostRam + 1)}}, api.ErrLong)
	wantLay(t, 64, many(1024, 64), api.OK)
	wantLay(t, 64, many(1025, 0), api.ErrLong)
	wantLay(t, 64, many(1025, 1), api.ErrLong)
	wantLay(t, 128, append(many(1024, 1), Part{0, []byte{1}}), api.ErrLong)
	wantLay(t, 128, append(many(1023, 1), Part{0, []byte{1}}), api.ErrFault)
}

// P15.1: a later part over earlier ones, across the ends of pages.
func TestLayOneOverTheOther(t *testing.T) {
	m := filled(t, 256)
	before := m.Bytes()
	l := []Part{
		{base + 60, []byte{1, 2, 3, 4, 5, 6, 7, 8, 9}},
		{base + 62, []byte{11, 12, 13}},
		{base + 200, nil},
		{base + 63, []byte{21}},
		{base + 120, mixed(80)},
		{base + 59, []byte{31, 32}},
	}
	if err := Lay(m, l); err != api.OK {
		t.Fatal(err)
	}
	want := before
	copy(want[59:], []byte{31, 32, 2, 11, 21, 13, 6, 7, 8, 9})
	copy(want[120:], mixed(80))
	if !bytes.Equal(m.Bytes(), want) {
		t.Errorf("%v", m.Bytes())
	}
	wantLay(t, 256, l, api.OK)
	wantLay(t, 192, l, api.ErrFault)
}

// P15.1: at each place, of each length.
func TestLayAtEachPlace(t *testing.T) {
	for at := uint32(base - 3); at < base+131; at++ {
		for _, n := range []int{0, 1, 2, 3, 5, 64, 65, 127, 128, 129} {
			want := api.OK
			if n > 0 && (at < base || int(at-base)+n > 128) {
				want = api.ErrFault
			}
			wantLay(t, 128, []Part{{at, mixed(n)}}, want)
			wantCheck(t, []Part{{at, mixed(n)}}, 128, want)
		}
	}
}

// P15.1: a nil memory is told ahead of all else; one that ram.New did not make has no bytes.
func TestLayOfNoMemory(t *testing.T) {
	for _, l := range [][]Part{nil, {}, many(1, 1), many(1025, 0), {{0, []byte{1}}}, {{base, mixed(mostRam + 1)}}} {
		if err := Lay(nil, l); err != api.ErrShape {
			t.Errorf("%d parts: %v", len(l), err)
		}
	}
	none := &ram.Ram{}
	for _, c := range []struct {
		l    []Part
		want api.Errno
	}{
		{nil, api.OK},
		{[]Part{{base, nil}, {0, []byte{}}}, api.OK},
		{[]Part{{base, []byte{1}}}, api.ErrFault},
		{many(1025, 0), api.ErrLong},
	} {
		if err := Lay(none, c.l); err != c.want {
			t.Errorf("%d parts: %v, want %v", len(c.l), err, c.want)
		}
	}
}

// P15.1: what is handed in is neither changed nor kept, nor what lies behind a list's end.
func TestLayKeepsNothing(t *testing.T) {
	room := []byte{1, 2, 3, 99, 98}
	parts := []Part{{base + 1, room[:3]}, {base + 70, room[1:2]}, {base + 2, room}}
	l := parts[:2]
	m := filled(t, 128)
	if err := Check(l, 128); err != api.OK {
		t.Fatal(err)
	}
	if err := Lay(m, l); err != api.OK {
		t.Fatal(err)
	}
	if !bytes.Equal(room, []byte{1, 2, 3, 99, 98}) || len(parts[2].B) != 5 || parts[2].At != base+2 {
		t.Errorf("changed: %v %v", room, parts)
	}
	was := m.Bytes()
	if !bytes.Equal(was[1:4], []byte{1, 2, 3}) || was[4] != 9 || was[70] != 2 {
		t.Errorf("%v", was)
	}
	clear(room)
	clear(parts)
	if !bytes.Equal(m.Bytes(), was) {
		t.Errorf("kept")
	}
	if hit, err := m.Store(base, 4, 0xffffffff); !hit || err != api.OK {
		t.Errorf("%v %v", hit, err)
	}
	if !bytes.Equal(room, make([]byte, 5)) {
		t.Errorf("the memory has the list's bytes")
	}
}

// digitOf answers a digit's number; -1, if it is none.
func digitOf(c byte) int {
	return strings.IndexByte("0123456789abcdef", lowered(c))
}

func lowered(c byte) byte {
	if c >= 'A' && c <= 'F' {
		return c + 32
	}
	return c
}

// numberOf answers what digits tell; -1, if one of them is none.
func numberOf(s string) int64 {
	n := int64(0)
	for i := range len(s) {
		d := digitOf(s[i])
		if d < 0 {
			return -1
		}
		n = n*16 + int64(d)
	}
	return n
}

// parsed answers what Parse must answer: the text is gone through sign by sign.
func parsed(s string) ([]Part, api.Errno) {
	if len(s) > mostText {
		return nil, api.ErrLong
	}
	var l []Part
	var signs []byte
	silent, right := false, true
	end := func() {
		switch w := string(signs); {
		case w == "":
		case w[0] == '@' && len(w) >= 2 && len(w) <= 9 && numberOf(w[1:]) >= 0:
			l = append(l, Part{At: uint32(numberOf(w[1:]))})
		case len(w) == 2 && numberOf(w) >= 0:
			if len(l) == 0 {
				l = append(l, Part{At: base})
			}
			l[len(l)-1].B = append(l[len(l)-1].B, byte(numberOf(w)))
		default:
			right = false
		}
		signs = nil
	}
	for i := range len(s) {
		switch c := s[i]; {
		case c == 10:
			end()
			silent = false
		case silent:
		case c == '#':
			end()
			silent = true
		case c == 32:
			end()
		default:
			signs = append(signs, c)
		}
	}
	end()
	if !right {
		return nil, api.ErrForm
	}
	if len(l) > mostList {
		return nil, api.ErrLong
	}
	return l, api.OK
}

func wantParse(t *testing.T, s string, l []Part, err api.Errno) {
	t.Helper()
	got, e := Parse(s)
	if e != err || !same(got, l) {
		t.Errorf("Parse(%q): %v %v, want %v %v", short(s), got, e, l, err)
	}
	if l2, e2 := parsed(s); e2 != err || !same(l2, l) {
		t.Errorf("told anew, %q: %v %v, want %v %v", short(s), l2, e2, l, err)
	}
}

func short(s string) string {
	return s[:min(len(s), 80)]
}

// P15.2: the example.
func TestParseExample(t *testing.T) {
	wantParse(t, "@80000000 93 00\na0 00", []Part{{base, []byte{0x93, 0, 0xa0, 0}}}, api.OK)
	wantParse(t, "@80000000 93 00\na0 00\n", []Part{{base, []byte{0x93, 0, 0xa0, 0}}}, api.OK)
}

// P15.2
func TestParseOfNothing(t *testing.T) {
	for _, s := range []string{"", " ", "   ", "\n", "\n\n\n", " \n ", "\n   \n  ", "#", "#\n", "# 01", " # @80000000 01", "#\n#x\n\n  #\n", "##", "#\t\r\x00\xff\u00e9"} {
		wantParse(t, s, nil, api.OK)
	}
}

// P15.2
func TestParse(t *testing.T) {
	b := func(l ...byte) []byte { return l }
	for _, c := range []struct {
		s string
		l []Part
	}{
		{"01", []Part{{base, b(1)}}},
		{"01\n", []Part{{base, b(1)}}},
		{"01\n\n", []Part{{base, b(1)}}},
		{"  01  ", []Part{{base, b(1)}}},
		{"01 02", []Part{{base, b(1, 2)}}},
		{"01    02", []Part{{base, b(1, 2)}}},
		{"01\n02", []Part{{base, b(1, 2)}}},
		{"\n01\n\n  02", []Part{{base, b(1, 2)}}},
		{"00", []Part{{base, b(0)}}},
		{"ff FF fF Ff aB Cd eF 9f", []Part{{base, b(255, 255, 255, 255, 0xab, 0xcd, 0xef, 0x9f)}}},
		{"01 @0 02", []Part{{base, b(1)}, {0, b(2)}}},
		{"01 @80000000 02", []Part{{base, b(1)}, {base, b(2)}}},
		{"@0", []Part{{0, nil}}},
		{"@0\n", []Part{{0, nil}}},
		{"@f", []Part{{15, nil}}},
		{"@F", []Part{{15, nil}}},
		{"@12", []Part{{0x12, nil}}},
		{"@123", []Part{{0x123, nil}}},
		{"@1234 5a", []Part{{0x1234, b(0x5a)}}},
		{"@12345 5a", []Part{{0x12345, b(0x5a)}}},
		{"@123456 5a", []Part{{0x123456, b(0x5a)}}},
		{"@1234567 5a", []Part{{0x1234567, b(0x5a)}}},
		{"@12345678", []Part{{0x12345678, nil}}},
		{"@00000000", []Part{{0, nil}}},
		{"@00000001", []Part{{1, nil}}},
		{"@80000000", []Part{{base, nil}}},
		{"@ffffffff", []Part{{math.MaxUint32, nil}}},
		{"@FFFFFFFF 01", []Part{{math.MaxUint32, b(1)}}},
		{"@aBcDeF01", []Part{{0xabcdef01, nil}}},
		{"@1 @2 01 @3 @4 02 03 @5", []Part{{1, nil}, {2, b(1)}, {3, nil}, {4, b(2, 3)}, {5, nil}}},
		{"@1\n@2 01\n02", []Part{{1, nil}, {2, b(1, 2)}}},
		{"@1\n\n# 9\n01\n", []Part{{1, b(1)}}},
		{"@7 01 @7 02", []Part{{7, b(1)}, {7, b(2)}}},
		{"@7 @7", []Part{{7, nil}, {7, nil}}},
		{"01# 02", []Part{{base, b(1)}}},
		{"01#02", []Part{{base, b(1)}}},
		{"01 #02\n03", []Part{{base, b(1, 3)}}},
		{"01#\n03#", []Part{{base, b(1, 3)}}},
		{"@1#2\n03", []Part{{1, b(3)}}},
		{"@12#34", []Part{{0x12, nil}}},
		{"# 01\n02", []Part{{base, b(2)}}},
		{"01 # # 02 # 03\n04", []Part{{base, b(1, 4)}}},
		{"01 # 1 @ 0g @@ \t\r\x00\x7f\x80\xff\u00e9\u2028 !\n02", []Part{{base, b(1, 2)}}},
		{"01#\xff\n02", []Part{{base, b(1, 2)}}},
	} {
		wantParse(t, c.s, c.l, api.OK)
	}
}

// P15.2: each word of two signs, and of an @ and one sign.
func TestParseOfEachSign(t *testing.T) {
	for i := range 256 {
		for j := range 256 {
			s := string([]byte{byte(i), byte(j)})
			l, err := parsed(s)
			got, e := Parse(s)
			if e != err || !same(got, l) {
				t.Fatalf("Parse(%q): %v %v", s, got, e)
			}
		}
		for _, s := range []string{"@" + string([]byte{byte(i)}), "@8000000" + string([]byte{byte(i)}), "01" + string([]byte{byte(i)}) + "02", "@1" + string([]byte{byte(i)}) + "02", string([]byte{byte(i)})} {
			l, err := parsed(s)
			got, e := Parse(s)
			if e != err || !same(got, l) {
				t.Fatalf("Parse(%q): %v %v", s, got, e)
			}
		}
	}
}

// wrongWords are none.
var wrongWords = []string{
	"0", "1", "f", "123", "1234", "000", "0001", "12345678", "123456789", "@", "@@", "@@1", "@@12", "1@", "1@2", "@1@2", "01@2", "01@", "@123456789", "@000000001", "@000000000", "@fffffffff",
	"0g", "g0", "@g", "@0g", "@8000000g", "0x", "0x1", "@0x10", "x1", "-1", "+1", "@-1", "@+1", "1_", "1.", "@1.", "01,", "01;", ":", "zz", "/0", "0/", ":0", "0:", "`0", "0`", "@`", "G0", "0G", "@G", "@/", "@:",
	"\t", "\t01", "01\t", "01\t02", "\r", "01\r", "\r01", "01\r02", "@1\r", "@1\t", "\v", "01\v", "\f01", "\x00", "0\x00", "01\x00", "\x00\x00", "@\x00", "\x1f", "\x7f", "\x80", "\xff", "0\xff", "\xff0", "\xff\xff",
	"\u00a0", "01\u00a0", "\u0085", "01\u008502", "\u2028", "01\u302802", "01\u300002", "\u00e9", "\uff10\uff11", "\u0660\u0661", "\u0660", "@\uff11", "\ufeff01", "\u0130", "\u017f0", "\u212a0", "\U0001d7d8", "!", "\"01\"", "'1", "01'",
}

// P15.2
func TestParseOfWrongWords(t *testing.T) {
	for _, w := range wrongWords {
		for _, s := range []string{
			w, w + "\n", " " + w, w + " ", "\n" + w, w + "#", w + " # 01", "01 " + w, w + " 01", "@1 01 " + w, "@1 " + w + " 01", "01\n" + w, "@1 02 # x\n" + w + "\n03", w + " " + w,
			strings.Repeat("@1 ", 1025) + w, w + strings.Repeat(" @1", 1025),
		} {
			wantParse(t, s, nil, api.ErrForm)
		}
		wantParse(t, "01 #"+w, []Part{{base, []byte{1}}}, api.OK)
	}
}

// P15.2: more than MaxText bytes, whatever it says; at the limit itself what it says.
func TestParseAtTheTextsLimit(t *testing.T) {
	bytesOf := func(n int) string { return strings.Repeat("5a ", n) }
	full := bytesOf(21845)
	l := []Part{{base, bytes.Repeat([]byte{0x5a}, 21845)}}
	wantParse(t, full, l, api.OK)
	wantParse(t, full+" ", l, api.OK)
	wantParse(t, full+"  ", nil, api.ErrLong)
	wantParse(t, full+"#", l, api.OK)
	wantParse(t, full+"1", nil, api.ErrForm)
	wantParse(t, full+"12", nil, api.ErrLong)
	for _, s := range []string{" ", "\n", "#", "1", "x", "@", "\xff", "01 ", "@0 ", "\u00e9"} {
		at := strings.Repeat(s, (mostText+len(s)-1)/len(s))[:mostText]
		l, err := parsed(at)
		wantParse(t, at, l, err)
		wantParse(t, at+s[:1], nil, api.ErrLong)
		wantParse(t, at+at, nil, api.ErrLong)
	}
	remark := "01 #" + strings.Repeat("x", mostText-4)
	wantParse(t, remark, []Part{{base, []byte{1}}}, api.OK)
	wantParse(t, remark+"x", nil, api.ErrLong)
	wantParse(t, remark[:mostText-1]+"\n", []Part{{base, []byte{1}}}, api.OK)
	wantParse(t, remark+"\n", nil, api.ErrLong)
}

// P15.2: more parts than may be.
func TestParseAtThePartsLimit(t *testing.T) {
	parts := func(n int) []Part {
		out := make([]Part, n)
		for i := range out {
			out[i].At = 10
		}
		return out
	}
	wantParse(t, strings.Repeat("@a ", 1023), parts(1023), api.OK)
	wantParse(t, strings.Repeat("@a ", 1024), parts(1024), api.OK)
	wantParse(t, strings.Repeat("@a ", 1025), nil, api.ErrLong)
	wantParse(t, strings.Repeat("@a\n", 1025), nil, api.ErrLong)
	wantParse(t, strings.Repeat("@a ", 21845), nil, api.ErrLong)
	first := append([]Part{{base, []byte{1}}}, parts(1023)...)
	wantParse(t, "01 "+strings.Repeat("@a ", 1023), first, api.OK)
	wantParse(t, "01 "+strings.Repeat("@a ", 1024), nil, api.ErrLong)
	wantParse(t, strings.Repeat("@a ", 1024)+"#"+" @a", parts(1024), api.OK)
	wantParse(t, strings.Repeat("@a ", 1025)+"1", nil, api.ErrForm)
	wantParse(t, "1 "+strings.Repeat("@a ", 1025), nil, api.ErrForm)
	last := parts(1024)
	last[1023].B = []byte{7, 8}
	wantParse(t, strings.Repeat("@a ", 1024)+"07\n08", last, api.OK)
}

// P15.2: no two lists of an answer share any room, nor do two answers.
func TestParseAnswersNewMemory(t *testing.T) {
	s := "01 02 03 @5 04 05 06 07 08 @6 @7 09"
	l, _ := Parse(s)
	again, _ := Parse(s)
	want := copied(again)
	for i := range l {
		l[i].B = append(l[i].B, 0xee, 0xee, 0xee, 0xee, 0xee)
		for j := range l[i].B {
			l[i].B[j] = 0xdd
		}
		for k := i + 1; k < len(l); k++ {
			if !bytes.Equal(l[k].B, want[k].B) {
				t.Errorf("part %d is changed with part %d", k, i)
			}
		}
	}
	if !same(again, want) {
		t.Errorf("%v", again)
	}
	fresh, _ := Parse(s)
	if !same(fresh, want) {
		t.Errorf("%v", fresh)
	}
}

// printed answers what Print must answer.
func printed(l []Part) string {
	s := ""
	for _, p := range l {
		s += fmt.Sprintf("@%08x", p.At)
		for _, b := range p.B {
			s += fmt.Sprintf(" %02x", b)
		}
		s += "\n"
	}
	return s
}

// P15.2
func TestPrint(t *testing.T) {
	each := make([]byte, 256)
	for i := range each {
		each[i] = byte(i)
	}
	for _, c := range []struct {
		l    []Part
		want string
	}{
		{nil, ""},
		{[]Part{}, ""},
		{[]Part{{0, nil}}, "@00000000\n"},
		{[]Part{{}}, "@00000000\n"},
		{[]Part{{math.MaxUint32, []byte{}}}, "@ffffffff\n"},
		{[]Part{{base, []byte{0}}}, "@80000000 00\n"},
		{[]Part{{base, []byte{0x93, 0, 0xa0, 0}}}, "@80000000 93 00 a0 00\n"},
		{[]Part{{1, []byte{255}}, {0xabcdef09, nil}, {1, []byte{1, 16}}}, "@00000001 ff\n@abcdef09\n@00000001 01 10\n"},
		{[]Part{{base, each}}, printed([]Part{{base, each}})},
	} {
		given := copied(c.l)
		if got := Print(c.l); got != c.want {
			t.Errorf("Print(%v): %q, want %q", c.l, got, c.want)
		}
		if !same(c.l, given) {
			t.Errorf("%v is changed", given)
		}
	}
}

// P15.2: Print asks for no limit.
func TestPrintOfMore(t *testing.T) {
	for _, l := range [][]Part{many(1025, 0), many(3, 40000), {{0, mixed(mostRam + 1)}}} {
		var want strings.Builder
		for _, p := range l {
			want.WriteString(printed([]Part{{At: p.At}})[:9])
			for _, b := range p.B {
				want.WriteString(fmt.Sprintf(" %02x", b))
			}
			want.WriteString("\n")
		}
		if got := Print(l); got != want.String() {
			t.Errorf("%d parts: not the text", len(l))
		}
	}
}

// P15.2
func TestWords(t *testing.T) {
	for _, at := range []uint32{0, 1, 4, base - 1, base, base + 3, math.MaxUint32} {
		for _, c := range []struct {
			words []uint32
			want  []byte
		}{
			{nil, nil},
			{[]uint32{}, nil},
			{[]uint32{0}, []byte{0, 0, 0, 0}},
			{[]uint32{0x01020304}, []byte{4, 3, 2, 1}},
			{[]uint32{0x00a00093}, []byte{0x93, 0, 0xa0, 0}},
			{[]uint32{math.MaxUint32, 0, 0x89abcdef}, []byte{255, 255, 255, 255, 0, 0, 0, 0, 0xef, 0xcd, 0xab, 0x89}},
			{[]uint32{1, 0x80, 0x100, 0x80000000}, []byte{1, 0, 0, 0, 0x80, 0, 0, 0, 0, 1, 0, 0, 0, 0, 0, 0x80}},
		} {
			given := append([]uint32(nil), c.words...)
			p := Words(at, c.words)
			if p.At != at || !bytes.Equal(p.B, c.want) {
				t.Errorf("Words(%#x, %x): %v", at, c.words, p)
			}
			for i := range p.B {
				p.B[i] ^= 0xff
			}
			for i := range given {
				if c.words[i] != given[i] {
					t.Errorf("%x is changed", given)
				}
			}
		}
	}
}

// P15.2: more words than a memory has, too; each byte at its place.
func TestWordsOfMany(t *testing.T) {
	words := make([]uint32, 20000)
	for i := range words {
		words[i] = uint32(i) * 0x9e3779b1
	}
	p := Words(base, words)
	if len(p.B) != 80000 {
		t.Fatalf("%d bytes", len(p.B))
	}
	for i, b := range p.B {
		if b != byte(words[i/4]>>(i%4*8)) {
			t.Fatalf("byte %d: %x", i, b)
		}
	}
}

// P15.2, P15.1: what is of words is laid, and loaded as these words.
func TestWordsAreLoaded(t *testing.T) {
	words := []uint32{0x00a00093, 0xfedcba98, 0, 0xffffffff}
	m := filled(t, 128)
	if err := Lay(m, []Part{Words(base+56, words)}); err != api.OK {
		t.Fatal(err)
	}
	for i, want := range words {
		if w, err := m.Load(base+56+uint32(4*i), 4); w != want || err != api.OK {
			t.Errorf("word %d: %x %v", i, w, err)
		}
	}
}

// lot is a row of numbers that looks as if it had no order.
type lot uint64

func (n *lot) below(most int) int {
	*n = *n*6364136223846793005 + 1442695040888963407
	return int(uint64(*n>>33) % uint64(most))
}

func (n *lot) part() Part {
	ats := []uint32{0, 1, base - 1, base, base + 1, base + 60, base + 65535, math.MaxUint32}
	p := Part{At: ats[n.below(len(ats))]}
	if n.below(3) == 0 {
		p.At = uint32(n.below(1<<16))<<16 | uint32(n.below(1<<16))
	}
	for range n.below(1 + n.below(9)) {
		p.B = append(p.B, byte(n.below(256)))
	}
	return p
}

// P15.3: what was printed is parsed as it was.
func TestPrintedIsParsed(t *testing.T) {
	n := lot(15)
	for range 3000 {
		var l []Part
		for range n.below(12) {
			l = append(l, n.part())
		}
		got, err := Parse(Print(l))
		if err != api.OK || !same(got, l) {
			t.Fatalf("%v: %v %v", l, got, err)
		}
	}
	for _, l := range [][]Part{
		nil,
		{{base, nil}},
		{{base, []byte{1}}, {base + 1, []byte{2}}},
		{{base, nil}, {base, nil}},
		{{5, []byte{1}}, {5, nil}, {5, []byte{1}}},
		many(1024, 0),
		many(1024, 18),
		{{base, mixed(21842)}},
	} {
		got, err := Parse(Print(l))
		if err != api.OK || !same(got, l) {
			t.Errorf("%d parts: %d %v", len(l), len(got), err)
		}
	}
}

// P15.3: what is too long is told.
func TestPrintedIsTooLong(t *testing.T) {
	for _, l := range [][]Part{many(1025, 0), many(1024, 19), {{base, mixed(21843)}}} {
		if got, err := Parse(Print(l)); len(got) != 0 || err != api.ErrLong {
			t.Errorf("%d parts: %d %v", len(l), len(got), err)
		}
	}
}

// P15.2: texts of few kinds of signs, in any order.
func TestParseOfAnyTexts(t *testing.T) {
	n := lot(7)
	pieces := []string{" ", " ", " ", "\n", "\n", "01", "02", "ff", "Ab", " 10", " 7f ", "@0 ", "@80000000", " @1f", "@", "#", "0", "g", "\t", " \xff"}
	for range 30000 {
		// The last ones, most of which make a text wrong, come less often.
		kinds := len(pieces)
		if n.below(4) > 0 {
			kinds -= 6
		}
		var s strings.Builder
		for range n.below(14) {
			s.WriteString(pieces[n.below(kinds)])
			if n.below(3) > 0 {
				s.WriteString(" ")
			}
		}
		l, err := parsed(s.String())
		got, e := Parse(s.String())
		if e != err || !same(got, l) || e != api.OK && got != nil {
			t.Fatalf("Parse(%q): %v %v, want %v %v", s.String(), got, e, l, err)
		}
	}
}

// P15.1: many lists of parts, about the ends of a memory.
func TestLayOfAnyParts(t *testing.T) {
	n := lot(3)
	faults := 0
	for range 2000 {
		var l []Part
		for range n.below(6) {
			p := Part{base + uint32(n.below(120)), mixed(n.below(12))}
			if n.below(12) == 0 {
				p.At = []uint32{base - 2, base + 124, base + 128, 0, math.MaxUint32}[n.below(5)]
			}
			l = append(l, p)
		}
		want := checked(l, 128)
		if want != api.OK {
			faults++
		}
		wantCheck(t, l, 128, want)
		wantLay(t, 128, l, want)
	}
	if faults < 100 || faults > 1500 {
		t.Errorf("%d faults", faults)
	}
}
