package tests

import (
	"hash/crc32"
	"math"
	"slices"
	"strconv"
	"strings"
	"testing"
	"unsafe"

	"loop.example/g00679/impl"
)

const zigLow = -2147483648
const zigHigh = 2147483647

// spelling is one number and the bytes that the document's rule gives for it, worked out by hand.
type spelling struct {
	n     int
	bytes []byte
}

func varSpellings() []spelling {
	return []spelling{
		{0, []byte{0}},
		{1, []byte{1}},
		{127, []byte{127}},
		{128, []byte{128, 1}},
		{255, []byte{255, 1}},
		{256, []byte{128, 2}},
		{300, []byte{172, 2}},
		{16383, []byte{255, 127}},
		{16384, []byte{128, 128, 1}},
		{2097151, []byte{255, 255, 127}},
		{2097152, []byte{128, 128, 128, 1}},
		{268435455, []byte{255, 255, 255, 127}},
		{268435456, []byte{128, 128, 128, 128, 1}},
		{impl.MaxNum - 1, []byte{254, 255, 255, 255, 15}},
		{impl.MaxNum, []byte{255, 255, 255, 255, 15}},
	}
}

func zigSpellings() []spelling {
	return []spelling{
		{0, []byte{0}},
		{-1, []byte{1}},
		{1, []byte{2}},
		{-2, []byte{3}},
		{63, []byte{126}},
		{-64, []byte{127}},
		{64, []byte{128, 1}},
		{-65, []byte{129, 1}},
		{zigHigh - 1, []byte{252, 255, 255, 255, 15}},
		{zigLow + 1, []byte{253, 255, 255, 255, 15}},
		{zigHigh, []byte{254, 255, 255, 255, 15}},
		{zigLow, []byte{255, 255, 255, 255, 15}},
	}
}

// unwritten are bytes that begin with no number.
func unwritten() [][]byte {
	return [][]byte{
		nil,
		{},
		{128},
		{255},
		{128, 128},
		{128, 128, 128, 128},
		{255, 255, 255, 255},
		{128, 0},
		{129, 0},
		{255, 0, 1},
		{128, 128, 0},
		{129, 128, 0},
		{128, 128, 128, 0},
		{128, 128, 128, 128, 0},
		{255, 255, 255, 255, 0},
		{128, 128, 128, 128, 16},
		{255, 255, 255, 255, 16},
		{255, 255, 255, 255, 31},
		{128, 128, 128, 128, 32},
		{255, 255, 255, 255, 127},
		{255, 255, 255, 255, 143, 0},
		{255, 255, 255, 255, 143, 1},
		{128, 128, 128, 128, 128, 0},
		{128, 128, 128, 128, 128, 1},
		{128, 128, 128, 128, 128, 128, 128, 128, 128, 1},
		{255, 255, 255, 255, 255, 255, 255, 255, 255, 255, 1},
		append(slices.Repeat([]byte{128}, 10), 1),
		append(append([]byte{129}, slices.Repeat([]byte{128}, 30)...), 1),
		slices.Repeat([]byte{128}, 5000),
		append(slices.Repeat([]byte{255}, 5000), 1),
	}
}

// manyNumbers are the small numbers and those around every power of two.
func manyNumbers() []int {
	var l []int
	for n := range 20000 {
		l = append(l, n)
	}
	for k := range 33 {
		for d := -3; d <= 3; d++ {
			if n := 1<<k + d; n >= 0 && n <= impl.MaxNum {
				l = append(l, n)
			}
		}
	}
	for n := 7; n <= impl.MaxNum; n = n*3 + 1 {
		l = append(l, n)
	}
	return l
}

func noNumbers() []int {
	return []int{-1, -2, -128, -impl.MaxNum, math.MinInt, math.MinInt + 1, impl.MaxNum + 1, impl.MaxNum + 2, 1 << 35, 1<<32 + 5, math.MaxInt, math.MaxInt - 1}
}

func strangePlaces(n int) []int {
	return []int{-1, -2, -n - 1, math.MinInt, math.MinInt + 1, n, n + 1, n + 128, math.MaxInt, math.MaxInt - 1}
}

func TestPutVarSpells(t *testing.T) {
	for _, x := range varSpellings() {
		got, ok := impl.PutVar(nil, x.n)
		if !ok || !slices.Equal(got, x.bytes) {
			t.Errorf("PutVar(nil, %d) = %v %v, not %v", x.n, got, ok, x.bytes)
		}
		got, ok = impl.PutVar([]byte{200, 0}, x.n)
		if !ok || !slices.Equal(got, append([]byte{200, 0}, x.bytes...)) {
			t.Errorf("PutVar behind bytes, %d = %v %v", x.n, got, ok)
		}
	}
}

func TestPutVarRefuses(t *testing.T) {
	for _, n := range noNumbers() {
		for _, b := range [][]byte{nil, {}, {1, 2, 3}} {
			if got, ok := impl.PutVar(b, n); ok || len(got) != 0 {
				t.Errorf("PutVar(%v, %d) = %v %v", b, n, got, ok)
			}
		}
	}
}

func TestVarReadsBack(t *testing.T) {
	for _, n := range manyNumbers() {
		b, ok := impl.PutVar([]byte{128, 7}, n)
		if !ok {
			t.Fatalf("PutVar refused %d", n)
		}
		for _, tail := range [][]byte{nil, {0}, {255, 255}} {
			got, next, ok := impl.GetVar(append(slices.Clone(b), tail...), 2)
			if !ok || got != n || next != len(b) {
				t.Fatalf("GetVar of PutVar(%d) with %v behind = %d %d %v", n, tail, got, next, ok)
			}
		}
	}
}

func TestVarListReadsBack(t *testing.T) {
	var b []byte
	for _, x := range varSpellings() {
		b, _ = impl.PutVar(b, x.n)
	}
	at := 0
	for _, x := range varSpellings() {
		n, next, ok := impl.GetVar(b, at)
		if !ok || n != x.n || next != at+len(x.bytes) {
			t.Fatalf("at %d: %d %d %v, not %d", at, n, next, ok, x.n)
		}
		at = next
	}
	if at != len(b) {
		t.Errorf("ended at %d of %d", at, len(b))
	}
}

func TestVarBreaksOff(t *testing.T) {
	for _, x := range varSpellings() {
		for k := range len(x.bytes) {
			if n, next, ok := impl.GetVar(x.bytes[:k], 0); n != 0 || next != 0 || ok {
				t.Errorf("GetVar of %d cut to %d bytes = %d %d %v", x.n, k, n, next, ok)
			}
		}
	}
}

func TestVarUnwritten(t *testing.T) {
	for _, b := range unwritten() {
		if n, next, ok := impl.GetVar(b, 0); n != 0 || next != 0 || ok {
			t.Errorf("GetVar(%v, 0) = %d %d %v", b[:min(len(b), 12)], n, next, ok)
		}
		if n, next, ok := impl.GetZig(b, 0); n != 0 || next != 0 || ok {
			t.Errorf("GetZig(%v, 0) = %d %d %v", b[:min(len(b), 12)], n, next, ok)
		}
	}
}

// Whatever GetVar reads, PutVar must write just so: held over all short bytes of the digits that matter.
func TestVarReadsOnlyWhatIsWritten(t *testing.T) {
	digits := []byte{0, 1, 15, 16, 31, 127, 128, 129, 143, 144, 255}
	var walk func(b []byte)
	walk = func(b []byte) {
		n, next, ok := impl.GetVar(b, 0)
		if ok {
			back, fine := impl.PutVar(nil, n)
			if !fine || next != len(back) || !slices.Equal(back, b[:next]) {
				t.Fatalf("GetVar(%v) = %d %d, but it is written %v", b, n, next, back)
			}
		} else if n != 0 || next != 0 {
			t.Fatalf("GetVar(%v) = %d %d beside false", b, n, next)
		}
		z, after, zok := impl.GetZig(b, 0)
		if zok != ok || after != next {
			t.Fatalf("GetZig(%v) = %d %d %v", b, z, after, zok)
		}
		if back, fine := impl.PutZig(nil, z); zok && (!fine || !slices.Equal(back, b[:after])) {
			t.Fatalf("GetZig(%v) = %d, but it is written %v", b, z, back)
		}
		if len(b) < 5 {
			for _, d := range digits {
				walk(append(slices.Clone(b), d))
			}
		}
	}
	walk(nil)
}

func TestStrangePlaces(t *testing.T) {
	for _, b := range [][]byte{nil, {}, {1}, {1, 2, 3}, {128, 1, 128}} {
		for _, at := range strangePlaces(len(b)) {
			if n, next, ok := impl.GetVar(b, at); n != 0 || next != 0 || ok {
				t.Errorf("GetVar(%v, %d) = %d %d %v", b, at, n, next, ok)
			}
			if n, next, ok := impl.GetZig(b, at); n != 0 || next != 0 || ok {
				t.Errorf("GetZig(%v, %d) = %d %d %v", b, at, n, next, ok)
			}
		}
	}
	if n, next, ok := impl.GetVar([]byte{128, 5, 9}, 2); n != 9 || next != 3 || !ok {
		t.Errorf("the last byte: %d %d %v", n, next, ok)
	}
	if n, next, ok := impl.GetVar([]byte{128, 5, 9}, 1); n != 5 || next != 2 || !ok {
		t.Errorf("from within a number: %d %d %v", n, next, ok)
	}
}

func TestPutZigSpells(t *testing.T) {
	for _, x := range zigSpellings() {
		got, ok := impl.PutZig([]byte{7}, x.n)
		if !ok || !slices.Equal(got, append([]byte{7}, x.bytes...)) {
			t.Errorf("PutZig({7}, %d) = %v %v, not %v behind 7", x.n, got, ok, x.bytes)
		}
		n, next, ok := impl.GetZig(x.bytes, 0)
		if !ok || n != x.n || next != len(x.bytes) {
			t.Errorf("GetZig(%v) = %d %d %v, not %d", x.bytes, n, next, ok, x.n)
		}
		for k := range len(x.bytes) {
			if n, next, ok := impl.GetZig(x.bytes[:k], 0); n != 0 || next != 0 || ok {
				t.Errorf("GetZig of %d cut to %d bytes = %d %d %v", x.n, k, n, next, ok)
			}
		}
	}
}

func TestPutZigRefuses(t *testing.T) {
	far := []int{zigHigh + 1, zigHigh + 2, zigLow - 1, zigLow - 2, impl.MaxNum, -impl.MaxNum, 1 << 33, -1 << 33, 1 << 62, -1 << 62, 1<<62 + 1, 1<<63 - 1, math.MinInt, math.MinInt + 1}
	for _, n := range far {
		for _, b := range [][]byte{nil, {}, {1, 2}} {
			if got, ok := impl.PutZig(b, n); ok || len(got) != 0 {
				t.Errorf("PutZig(%v, %d) = %v %v", b, n, got, ok)
			}
		}
	}
}

func TestZigReadsBack(t *testing.T) {
	for _, k := range manyNumbers() {
		for _, n := range []int{k, -k, -k - 1} {
			if n < zigLow || n > zigHigh {
				continue
			}
			b, ok := impl.PutZig([]byte{255}, n)
			got, next, fine := impl.GetZig(b, 1)
			if !ok || !fine || got != n || next != len(b) {
				t.Fatalf("GetZig of PutZig(%d) = %d %d %v (written: %v)", n, got, next, fine, ok)
			}
		}
	}
}

func TestCrcKnownSums(t *testing.T) {
	known := []struct {
		text string
		sum  int
	}{
		{"", 0},
		{"123456789", 3421780262},
		{"a", 3904355907},
		{"abc", 891568578},
		{"The quick brown fox jumps over the lazy dog", 1095738169},
		{"\x00", 3523407757},
		{"\xff\xff\xff\xff", 4294967295},
	}
	for _, x := range known {
		if got := impl.Crc([]byte(x.text)); got != x.sum {
			t.Errorf("Crc(%q) = %d, not %d", x.text, got, x.sum)
		}
	}
}

func TestCrcOfManyBytes(t *testing.T) {
	var b []byte
	for i := range 600 {
		if got := impl.Crc(b); got != int(crc32.ChecksumIEEE(b)) {
			t.Fatalf("Crc of %d bytes = %d", len(b), got)
		}
		b = append(b, byte(i*i+i>>3))
	}
	for c := range 256 {
		one := []byte{byte(c)}
		if got := impl.Crc(one); got != int(crc32.ChecksumIEEE(one)) {
			t.Fatalf("Crc(%v) = %d", one, got)
		}
	}
}

func TestCrcKeepsNothing(t *testing.T) {
	first := impl.Crc([]byte("abc"))
	impl.Crc([]byte("another"))
	if again := impl.Crc([]byte("abc")); again != first {
		t.Errorf("%d, then %d", first, again)
	}
}

func TestNumText(t *testing.T) {
	for _, n := range manyNumbers() {
		s := impl.NumText(n)
		if s != strconv.Itoa(n) {
			t.Fatalf("NumText(%d) = %q", n, s)
		}
		if got, ok := impl.TextNum(s); !ok || got != n {
			t.Fatalf("TextNum(%q) = %d %v", s, got, ok)
		}
	}
	for _, n := range noNumbers() {
		if s := impl.NumText(n); s != "" {
			t.Errorf("NumText(%d) = %q", n, s)
		}
	}
	if impl.NumText(impl.MaxNum) != "4294967295" || impl.NumText(0) != "0" {
		t.Error("the ends")
	}
}

func TestTextNumRefuses(t *testing.T) {
	wrong := []string{
		"", " ", "-", "+", "-0", "+0", "-1", "+1", "00", "01", "007", "0120", "1 ", " 1", "1\n", "1\x00", "\x001",
		"1_000", "0x10", "0b1", "0o7", "1e3", "1.0", "1,0", "a", "1a", "a1", "12 3", "1/", "1:", "\xff", "١", "１",
		"4294967296", "4294967299", "4294967300", "5000000000", "9999999999", "10000000000", "04294967295",
		"9223372036854775807", "9223372036854775808", "18446744073709551615", "18446744073709551616", "18446744073709551617",
		strings.Repeat("9", 400), strings.Repeat("0", 400), strings.Repeat("0", 400) + "1",
	}
	for _, s := range wrong {
		if n, ok := impl.TextNum(s); ok || n != 0 {
			t.Errorf("TextNum(%q) = %d %v", s, n, ok)
		}
	}
	right := map[string]int{"0": 0, "9": 9, "10": 10, "120": 120, "4294967294": 4294967294, "4294967295": impl.MaxNum}
	for s, want := range right {
		if n, ok := impl.TextNum(s); !ok || n != want {
			t.Errorf("TextNum(%q) = %d %v", s, n, ok)
		}
	}
}

func TestParts(t *testing.T) {
	cuts := []struct {
		text  string
		parts []string
	}{
		{"", []string{""}},
		{" ", []string{"", ""}},
		{"   ", []string{"", "", "", ""}},
		{"a", []string{"a"}},
		{"a b", []string{"a", "b"}},
		{"a  b", []string{"a", "", "b"}},
		{" a", []string{"", "a"}},
		{"a ", []string{"a", ""}},
		{" a b ", []string{"", "a", "b", ""}},
		{"a\tb\nc\rd", []string{"a\tb\nc\rd"}},
		{"a\u00a0b \xff\xfe é", []string{"a\u00a0b", "\xff\xfe", "é"}},
	}
	for _, x := range cuts {
		if got := impl.Parts(x.text); !slices.Equal(got, x.parts) {
			t.Errorf("Parts(%q) = %q, not %q", x.text, got, x.parts)
		}
	}
	long := strings.Repeat("ab ", 3000)
	if got := impl.Parts(long); len(got) != 3001 || strings.Join(got, " ") != long {
		t.Errorf("%d parts of a long text", len(got))
	}
}

func TestLines(t *testing.T) {
	cuts := []struct {
		text  string
		lines []string
	}{
		{"", nil},
		{"\n", []string{""}},
		{"\n\n", []string{"", ""}},
		{"a", []string{"a"}},
		{"a\n", []string{"a"}},
		{"a\n\n", []string{"a", ""}},
		{"\na", []string{"", "a"}},
		{"a\nb", []string{"a", "b"}},
		{"a\nb\n", []string{"a", "b"}},
		{"a\n\nb", []string{"a", "", "b"}},
		{"a\r\nb\r", []string{"a\r", "b\r"}},
		{" a b \n ", []string{" a b ", " "}},
		{"a\vb\fc\u0085d\u2028e", []string{"a\vb\fc\u0085d\u2028e"}},
		{"\xff\n\x00\n", []string{"\xff", "\x00"}},
	}
	for _, x := range cuts {
		if got := impl.Lines(x.text); !slices.Equal(got, x.lines) {
			t.Errorf("Lines(%q) = %q, not %q", x.text, got, x.lines)
		}
	}
}

func TestMod(t *testing.T) {
	rests := []struct{ n, m, want int }{
		{0, 1, 0}, {0, 5, 0}, {7, 5, 2}, {5, 5, 0}, {4, 5, 4}, {-1, 5, 4}, {-4, 5, 1}, {-5, 5, 0}, {-6, 5, 4}, {-7, 5, 3}, {-9, 1, 0},
		{3, 0, 0}, {-3, 0, 0}, {3, -5, 0}, {-3, -5, 0}, {-3, -1, 0}, {math.MinInt, -1, 0}, {7, math.MinInt, 0}, {math.MinInt, 0, 0},
		{math.MaxInt, 2, 1}, {math.MinInt, 2, 0}, {math.MinInt, 3, 1}, {math.MinInt + 1, 2, 1}, {math.MaxInt, 10, 7}, {math.MinInt, 10, 2},
		{math.MaxInt, math.MaxInt, 0}, {-1, math.MaxInt, math.MaxInt - 1}, {math.MinInt, math.MaxInt, math.MaxInt - 1}, {5, math.MaxInt, 5},
	}
	for _, x := range rests {
		if got := impl.Mod(x.n, x.m); got != x.want {
			t.Errorf("Mod(%d, %d) = %d, not %d", x.n, x.m, got, x.want)
		}
	}
	for n := -60; n <= 60; n++ {
		for m := 1; m <= 13; m++ {
			if got := impl.Mod(n, m); got < 0 || got >= m || (n-got)%m != 0 {
				t.Errorf("Mod(%d, %d) = %d", n, m, got)
			}
		}
	}
}

// roomy is a list with bytes behind its end, into which an append in place would write.
func roomy() ([]byte, []byte) {
	room := []byte{1, 2, 3, 91, 92, 93, 94, 95, 96, 97, 98, 99}
	return room, room[:3]
}

func TestPutsLeaveTheArgument(t *testing.T) {
	puts := map[string]func([]byte, int) ([]byte, bool){"PutVar": impl.PutVar, "PutZig": impl.PutZig}
	for name, put := range puts {
		for _, n := range []int{0, 5, 300, 2147483647, -1, impl.MaxNum + 1} {
			room, b := roomy()
			before := slices.Clone(room)
			got, _ := put(b, n)
			more, _ := put(b, n)
			kept := slices.Clone(more)
			if !slices.Equal(room, before) {
				t.Errorf("%s of %d wrote into its argument: %v", name, n, room)
			}
			whole := got[:cap(got)]
			for i := range whole {
				whole[i] = 77
			}
			if !slices.Equal(room, before) {
				t.Errorf("the answer of %s of %d lies in the argument", name, n)
			}
			if !slices.Equal(more, kept) {
				t.Errorf("two answers of %s of %d share memory", name, n)
			}
		}
	}
}

func TestReadersLeaveTheArgument(t *testing.T) {
	for _, b := range unwritten() {
		before := slices.Clone(b)
		impl.GetVar(b, 0)
		impl.GetZig(b, 0)
		impl.Crc(b)
		if !slices.Equal(b, before) {
			t.Errorf("changed: %v", before[:min(len(before), 12)])
		}
	}
}

func overlap(a, b string) bool {
	if a == "" || b == "" {
		return false
	}
	pa, pb := uintptr(unsafe.Pointer(unsafe.StringData(a))), uintptr(unsafe.Pointer(unsafe.StringData(b)))
	return pa < pb+uintptr(len(b)) && pb < pa+uintptr(len(a))
}

func TestCutsAreNewMemory(t *testing.T) {
	cuts := map[string]func(string) []string{"Parts": impl.Parts, "Lines": impl.Lines}
	for name, cut := range cuts {
		for _, s := range []string{"alone", "one two\nthree\n", " a\n b\n c", "\n \n"} {
			first, second := cut(s), cut(s)
			kept := slices.Clone(second)
			for i := range first {
				if overlap(first[i], s) {
					t.Errorf("%s(%q): piece %d lies in the argument", name, s, i)
				}
				first[i] = "changed"
			}
			if !slices.Equal(second, kept) {
				t.Errorf("%s(%q): two answers share memory", name, s)
			}
		}
	}
}
