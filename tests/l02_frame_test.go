package tests

import (
	"encoding/binary"
	"hash/crc32"
	"math"
	"slices"
	"testing"

	"loop.example/g00679/impl"
)

// three spells the lowest 24 bits of n, the highest byte first.
func three(n int) []byte {
	return []byte{byte(n >> 16), byte(n >> 8), byte(n)}
}

// headFor is a head with a right sum, of any numbers: also of those that no frame may have.
func headFor(seq, size int) []byte {
	b := slices.Concat([]byte{82}, three(seq), three(size))
	return binary.BigEndian.AppendUint32(b, crc32.ChecksumIEEE(b))
}

// frameFor spells a frame by the library's sums, apart from the program.
func frameFor(seq int, data []byte) []byte {
	b := binary.BigEndian.AppendUint32(headFor(seq, len(data)), crc32.ChecksumIEEE(data))
	return append(b, data...)
}

// someBytes are n bytes of a plain rule, the frame's own mark among them.
func someBytes(n int) []byte {
	b := make([]byte, n)
	for i := range b {
		b[i] = byte(i*i + i>>2 + 82)
	}
	return b
}

func frameSeqs() []int {
	return []int{0, 1, 2, 127, 128, 255, 256, 257, 65535, 65536, 65537, impl.MaxSeq - 1, impl.MaxSeq}
}

func frameSizes() []int {
	return []int{0, 1, 2, 10, 11, 14, 15, 16, 255, 256, 257, impl.MaxFrame - 1, impl.MaxFrame}
}

func chunksOf(sizes ...int) []impl.Chunk {
	var l []impl.Chunk
	for i, n := range sizes {
		b := someBytes(n + i)
		l = append(l, impl.Chunk{Data: b[i:]})
	}
	return l
}

// endsOf are the places behind 0, 1, 2 and so on of the frames of l.
func endsOf(l []impl.Chunk) []int {
	ends := []int{0}
	for _, c := range l {
		ends = append(ends, ends[len(ends)-1]+15+len(c.Data))
	}
	return ends
}

func sameChunks(a, b []impl.Chunk) bool {
	return slices.EqualFunc(a, b, func(x, y impl.Chunk) bool { return slices.Equal(x.Data, y.Data) })
}

func streamOf(t *testing.T, l []impl.Chunk) []byte {
	t.Helper()
	b, ok := impl.Stream(l)
	if !ok {
		t.Fatalf("Stream refused %d chunks", len(l))
	}
	return b
}

func wantScan(t *testing.T, what string, b []byte, l []impl.Chunk, at, state int) {
	t.Helper()
	got, place, told := impl.Scan(b)
	if !sameChunks(got, l) || place != at || told != state {
		t.Errorf("%s: Scan = %d chunks, place %d, state %d; not %d, %d, %d", what, len(got), place, told, len(l), at, state)
	}
	if impl.Whole(b) != (state == impl.TlWhole) {
		t.Errorf("%s: Whole = %v", what, impl.Whole(b))
	}
}

func wantCode(t *testing.T, what string, b []byte, at, code int) {
	t.Helper()
	seq, data, next, got := impl.FrameRead(b, at)
	if got != code || seq != 0 || len(data) != 0 || next != 0 {
		t.Errorf("%s: FrameRead at %d = %d, %d bytes, %d, code %d; not nothing and code %d", what, at, seq, len(data), next, got, code)
	}
}

func TestFrameSpelling(t *testing.T) {
	known := []struct {
		seq   int
		data  string
		bytes []byte
	}{
		{0, "", []byte{82, 0, 0, 0, 0, 0, 0, 41, 38, 39, 224, 0, 0, 0, 0}},
		{3, "hi", []byte{82, 0, 0, 3, 0, 0, 2, 213, 157, 233, 34, 216, 147, 42, 172, 'h', 'i'}},
		{impl.MaxSeq, "123456789", []byte{82, 1, 134, 160, 0, 0, 9, 232, 107, 16, 214, 203, 244, 57, 38, '1', '2', '3', '4', '5', '6', '7', '8', '9'}},
	}
	for _, x := range known {
		got, ok := impl.FrameBytes(x.seq, []byte(x.data))
		if !ok || !slices.Equal(got, x.bytes) {
			t.Errorf("FrameBytes(%d, %q) = %v %v, not %v", x.seq, x.data, got, ok, x.bytes)
		}
	}
	for _, seq := range frameSeqs() {
		for _, size := range frameSizes() {
			data := someBytes(size)
			if got, ok := impl.FrameBytes(seq, data); !ok || !slices.Equal(got, frameFor(seq, data)) {
				t.Errorf("FrameBytes(%d, %d bytes) is spelled otherwise (%v)", seq, size, ok)
			}
		}
	}
}

func TestFrameBytesRefuses(t *testing.T) {
	far := []int{-1, -2, -1 << 24, math.MinInt, impl.MaxSeq + 1, impl.MaxSeq + 2, 1 << 24, 1<<24 + 1, 1 << 32, math.MaxInt}
	for _, seq := range far {
		for _, size := range []int{0, 1, impl.MaxFrame, impl.MaxFrame + 1} {
			if got, ok := impl.FrameBytes(seq, someBytes(size)); ok || len(got) != 0 {
				t.Errorf("FrameBytes(%d, %d bytes) = %d bytes, %v", seq, size, len(got), ok)
			}
		}
	}
	for _, size := range []int{impl.MaxFrame + 1, impl.MaxFrame + 2, 65536, 1 << 24} {
		for _, seq := range []int{0, 1, impl.MaxSeq} {
			if got, ok := impl.FrameBytes(seq, make([]byte, size)); ok || len(got) != 0 {
				t.Errorf("FrameBytes(%d, %d bytes) = %d bytes, %v", seq, size, len(got), ok)
			}
		}
	}
}

func TestFrameReadsBack(t *testing.T) {
	for _, seq := range frameSeqs() {
		for _, size := range frameSizes() {
			data := someBytes(size)
			frame, _ := impl.FrameBytes(seq, data)
			for _, ahead := range [][]byte{nil, {82}, {0, 82, 255}} {
				for _, behind := range [][]byte{nil, {0}, {82, 0, 0}} {
					got, content, next, code := impl.FrameRead(slices.Concat(ahead, frame, behind), len(ahead))
					if code != 0 || got != seq || !slices.Equal(content, data) || next != len(ahead)+15+size {
						t.Fatalf("frame %d of %d bytes is read as %d, %d bytes, %d, code %d", seq, size, got, len(content), next, code)
					}
				}
			}
		}
	}
}

func TestFrameReadPlaces(t *testing.T) {
	lists := [][]byte{nil, {}, {82}, someBytes(40), frameFor(0, nil), frameFor(5, []byte("abc"))}
	for _, b := range lists {
		for _, at := range []int{-1, -2, -11, -15, -len(b) - 1, math.MinInt, math.MinInt + 1, len(b) + 1, len(b) + 2, len(b) + 15, math.MaxInt - 11, math.MaxInt} {
			wantCode(t, "outside", b, at, 1)
		}
		wantCode(t, "at the end", b, len(b), 2)
		for k := range min(len(b), 10) {
			wantCode(t, "near the end", b, len(b)-k-1, 2)
		}
	}
}

func TestFrameReadCutOff(t *testing.T) {
	for _, size := range []int{0, 1, 2, 30, impl.MaxFrame} {
		frame := frameFor(7, someBytes(size))
		for k := range frame {
			code := 4
			if k < 11 {
				code = 2
			}
			wantCode(t, "cut off", frame[:k], 0, code)
		}
	}
}

// Room behind the end of a list is no part of it, even where the rest of the frame still lies there.
func TestFrameReadLooksNotBehindTheEnd(t *testing.T) {
	frame := frameFor(1, []byte("data"))
	wantCode(t, "cut to the sums", frame[:15:19], 0, 4)
	wantCode(t, "cut within the head", frame[:10:19], 0, 2)
}

func TestFrameReadTurned(t *testing.T) {
	for _, size := range []int{0, 1, 5} {
		frame := frameFor(impl.MaxSeq, someBytes(size))
		for i := range frame {
			code := 3
			if i >= 11 {
				code = 5
			}
			for mask := 1; mask < 256; mask++ {
				b := slices.Clone(frame)
				b[i] ^= byte(mask)
				wantCode(t, "turned", b, 0, code)
			}
		}
	}
}

// Heads whose sum is right, but whose numbers no frame may have.
func TestFrameReadNumbersTooGreat(t *testing.T) {
	for _, seq := range []int{impl.MaxSeq + 1, impl.MaxSeq + 2, 1 << 17, 1 << 23, 1<<24 - 1} {
		wantCode(t, "seq", frameFor(seq, []byte("abc")), 0, 3)
		wantCode(t, "seq, empty", frameFor(seq, nil), 0, 3)
		wantCode(t, "seq, head alone", headFor(seq, 3), 0, 3)
	}
	for _, size := range []int{impl.MaxFrame + 1, impl.MaxFrame + 2, 65536} {
		wantCode(t, "size", frameFor(0, someBytes(size)), 0, 3)
		wantCode(t, "size, head alone", headFor(0, size), 0, 3)
	}
	wantCode(t, "greatest size", headFor(0, 1<<24-1), 0, 3)
	wantCode(t, "both", headFor(1<<24-1, 1<<24-1), 0, 3)
	wantCode(t, "both at their greatest", headFor(impl.MaxSeq, impl.MaxFrame), 0, 4)
}

func TestFrameReadFirstCodeCounts(t *testing.T) {
	bad := frameFor(4, []byte("abcd"))
	bad[0] = 83
	bad[15] ^= 1
	wantCode(t, "outside, and no mark", bad, -1, 1)
	wantCode(t, "behind, and no mark", bad, len(bad)+1, 1)
	wantCode(t, "too few, and no mark", bad[:10], 0, 2)
	wantCode(t, "too few, none", bad, len(bad), 2)
	wantCode(t, "no mark, and not all there", bad[:11], 0, 3)
	wantCode(t, "no mark, and a wrong second sum", bad, 0, 3)
	marked := slices.Concat([]byte{81}, three(4), three(0))
	marked = binary.BigEndian.AppendUint32(marked, crc32.ChecksumIEEE(marked))
	wantCode(t, "no mark, but its sum", append(marked, 0, 0, 0, 0), 0, 3)
	bad[0] = 82
	wantCode(t, "wrong data, and not all there", bad[:18], 0, 4)
	wantCode(t, "wrong data", bad, 0, 5)
	bad[10] ^= 128
	wantCode(t, "a wrong first sum, and not all there", bad[:14], 0, 3)
	wantCode(t, "a wrong first sum, and wrong data", bad, 0, 3)
	swapped := slices.Concat(headFor(0, 1), []byte{0, 0, 0, 0}, []byte{1})
	wantCode(t, "the second sum of no data", swapped, 0, 5)
}

// A frame that can't be read leaves nothing behind for the next call.
func TestFrameReadKeepsNothing(t *testing.T) {
	frame := frameFor(9, []byte("kept"))
	for range 3 {
		wantCode(t, "outside", frame, -1, 1)
		wantCode(t, "cut off", frame[:12], 0, 4)
		seq, data, next, code := impl.FrameRead(frame, 0)
		if seq != 9 || string(data) != "kept" || next != 19 || code != 0 {
			t.Fatalf("%d %q %d %d", seq, data, next, code)
		}
	}
}

// Whatever is read from bytes of any kind must be written just so.
func TestFrameReadsOnlyWhatIsWritten(t *testing.T) {
	state := uint32(12345)
	roll := func(n int) int {
		state = state*1664525 + 1013904223
		return int(state>>8) % n
	}
	good := 0
	for range 20000 {
		b := slices.Concat(frameFor(roll(impl.MaxSeq+50), someBytes(roll(6))), frameFor(roll(3), someBytes(roll(4))))
		if roll(3) > 0 {
			b[roll(len(b))] = byte(roll(256))
		}
		b = b[:len(b)-roll(20)]
		at := roll(len(b)+5) * roll(2)
		seq, data, next, code := impl.FrameRead(b, at)
		if code < 0 || code > 5 || code != 0 && (seq != 0 || len(data) != 0 || next != 0) {
			t.Fatalf("FrameRead(%v, %d) = %d %v %d %d", b, at, seq, data, next, code)
		}
		if code != 0 {
			continue
		}
		good++
		back, ok := impl.FrameBytes(seq, data)
		if !ok || next > len(b) || !slices.Equal(back, b[at:next]) {
			t.Fatalf("FrameRead(%v, %d) = %d %v %d, but it is written %v", b, at, seq, data, next, back)
		}
	}
	if good < 100 {
		t.Errorf("only %d frames could be read", good)
	}
}

func TestStreamSpelling(t *testing.T) {
	lists := [][]impl.Chunk{nil, {}, chunksOf(0), chunksOf(1), chunksOf(0, 0, 0), chunksOf(3, 0, 1, 300), chunksOf(impl.MaxFrame, 0, impl.MaxFrame)}
	for _, l := range lists {
		var want []byte
		for i, c := range l {
			want = append(want, frameFor(i, c.Data)...)
		}
		got, ok := impl.Stream(l)
		if !ok || !slices.Equal(got, want) {
			t.Errorf("Stream of %d chunks = %d bytes, %v", len(l), len(got), ok)
		}
		wantScan(t, "read back", got, l, len(want), impl.TlWhole)
	}
}

func TestStreamRefuses(t *testing.T) {
	for i := range 4 {
		l := chunksOf(1, 0, 2, impl.MaxFrame)
		l[i].Data = make([]byte, impl.MaxFrame+1)
		if got, ok := impl.Stream(l); ok || len(got) != 0 {
			t.Errorf("Stream with chunk %d too long = %d bytes, %v", i, len(got), ok)
		}
	}
}

func TestStreamOfAllNumbers(t *testing.T) {
	l := make([]impl.Chunk, impl.MaxSeq+2)
	l[impl.MaxSeq].Data = []byte("last")
	if got, ok := impl.Stream(l); ok || len(got) != 0 {
		t.Errorf("Stream of %d chunks = %d bytes, %v", len(l), len(got), ok)
	}
	l = l[:impl.MaxSeq+1]
	b := streamOf(t, l)
	wantScan(t, "all numbers", b, l, len(b), impl.TlWhole)
	wantScan(t, "a number too many", append(slices.Clone(b), frameFor(impl.MaxSeq+1, nil)...), l, len(b), impl.TlBent)
	wantScan(t, "from the first again", append(slices.Clone(b), frameFor(0, nil)...), l, len(b), impl.TlBent)
}

func TestScanCutOff(t *testing.T) {
	for _, l := range [][]impl.Chunk{chunksOf(0), chunksOf(5), chunksOf(3, 0, 1, 0, 0, 40, 2), chunksOf(90, 0, impl.MaxFrame)} {
		b := streamOf(t, l)
		ends := endsOf(l)
		k := 0
		for cut := range len(b) + 1 {
			for k < len(l) && ends[k+1] <= cut {
				k++
			}
			state := impl.TlTorn
			if cut == ends[k] {
				state = impl.TlWhole
			}
			wantScan(t, "cut off", b[:cut], l[:k], ends[k], state)
		}
	}
}

func TestScanTurned(t *testing.T) {
	l := chunksOf(3, 0, 12, 1)
	b := streamOf(t, l)
	ends := endsOf(l)
	for i := range b {
		k := 0
		for ends[k+1] <= i {
			k++
		}
		for mask := 1; mask < 256; mask++ {
			turned := slices.Clone(b)
			turned[i] ^= byte(mask)
			wantScan(t, "turned", turned, l[:k], ends[k], impl.TlBent)
		}
	}
}

// Of a stream that is cut off and turned, what is ahead of the turned frame is told, and it is never whole.
func TestScanTurnedAndCutOff(t *testing.T) {
	l := chunksOf(2, 0, 5)
	b := streamOf(t, l)
	ends := endsOf(l)
	for cut := 1; cut <= len(b); cut++ {
		for i := range cut {
			turned := slices.Clone(b[:cut])
			turned[i] ^= 16
			got, at, state := impl.Scan(turned)
			k := 0
			for ends[k+1] <= i {
				k++
			}
			if !sameChunks(got, l[:k]) || at != ends[k] || state == impl.TlWhole || impl.Whole(turned) {
				t.Errorf("cut to %d, byte %d turned: %d chunks, %d, %d", cut, i, len(got), at, state)
			}
		}
	}
}

func TestScanWrongNumbers(t *testing.T) {
	data := []byte("abc")
	runs := []struct {
		seqs []int
		good int
	}{
		{[]int{0}, 1},
		{[]int{0, 1, 2, 3}, 4},
		{[]int{1}, 0},
		{[]int{1, 0}, 0},
		{[]int{impl.MaxSeq}, 0},
		{[]int{0, 0}, 1},
		{[]int{0, 2}, 1},
		{[]int{0, 2, 1}, 1},
		{[]int{0, 1, 1, 2}, 2},
		{[]int{0, 1, 0}, 2},
		{[]int{0, 1, 3, 4}, 2},
		{[]int{0, 1, 2, impl.MaxSeq}, 3},
		{[]int{0, 256}, 1},
		{[]int{0, 1, 2, 65539}, 3},
	}
	for _, x := range runs {
		var b []byte
		var l []impl.Chunk
		for i, seq := range x.seqs {
			b = append(b, frameFor(seq, data)...)
			if i < x.good {
				l = append(l, impl.Chunk{Data: data})
			}
		}
		state := impl.TlBent
		if x.good == len(x.seqs) {
			state = impl.TlWhole
		}
		wantScan(t, "numbers", b, l, 18*x.good, state)
	}
}

// A frame with a wrong number that is cut off is torn: FrameRead has its code there whatever the number.
func TestScanWrongNumberCutOff(t *testing.T) {
	l := chunksOf(4)
	first := streamOf(t, l)
	wrong := frameFor(7, []byte("xyz"))
	for k := 1; k < len(wrong); k++ {
		wantScan(t, "wrong number cut off", slices.Concat(first, wrong[:k]), l, len(first), impl.TlTorn)
	}
	wantScan(t, "wrong number all there", slices.Concat(first, wrong), l, len(first), impl.TlBent)
	wrong[len(wrong)-1] ^= 1
	wantScan(t, "wrong number and wrong data", slices.Concat(first, wrong), l, len(first), impl.TlBent)
}

func TestScanOtherBytes(t *testing.T) {
	wantScan(t, "nil", nil, nil, 0, impl.TlWhole)
	wantScan(t, "empty", []byte{}, nil, 0, impl.TlWhole)
	l := chunksOf(2, 0)
	b := streamOf(t, l)
	for n := 1; n < 40; n++ {
		state := impl.TlTorn
		if n >= 11 {
			state = impl.TlBent
		}
		for _, junk := range [][]byte{make([]byte, n), someBytes(n), slices.Repeat([]byte{82}, n)} {
			wantScan(t, "other bytes", junk, nil, 0, state)
			wantScan(t, "other bytes behind", slices.Concat(b, junk), l, len(b), state)
		}
	}
	wantScan(t, "a byte ahead", append([]byte{0}, b...), nil, 0, impl.TlBent)
	wantScan(t, "twice", slices.Concat(b, b), l, len(b), impl.TlBent)
	wantScan(t, "a size too great, cut off", slices.Concat(b, headFor(2, impl.MaxFrame+1)), l, len(b), impl.TlBent)
	wantScan(t, "the greatest size, cut off", slices.Concat(b, headFor(2, impl.MaxFrame)), l, len(b), impl.TlTorn)
}

// spoil writes over all that a list reaches, its room behind the end included.
func spoil(b []byte) {
	b = b[:cap(b)]
	for i := range b {
		b[i] ^= 255
	}
}

func TestFrameWritersLeaveTheArgument(t *testing.T) {
	room, data := roomy()
	before := slices.Clone(room)
	frame, _ := impl.FrameBytes(1, data)
	impl.FrameBytes(-1, data)
	l := []impl.Chunk{{Data: data}, {Data: data[:0]}, {Data: data[1:]}}
	stream := streamOf(t, l)
	impl.Stream(append(slices.Clone(l), impl.Chunk{Data: make([]byte, impl.MaxFrame+1)}))
	again := streamOf(t, l)
	kept := slices.Clone(again)
	spoil(frame)
	spoil(stream)
	if !slices.Equal(room, before) {
		t.Errorf("the room of the data is %v now", room)
	}
	if len(l) != 3 || len(l[0].Data) != 3 || len(l[1].Data) != 0 || len(l[2].Data) != 2 {
		t.Errorf("the chunks are %v now", l)
	}
	if !slices.Equal(again, kept) {
		t.Error("two answers of Stream share memory")
	}
	one, _ := impl.Stream(l[:1])
	spoil(one)
	if !slices.Equal(room, before) {
		t.Error("the stream of one chunk lies in the argument")
	}
}

func TestFrameReadersLeaveTheArgument(t *testing.T) {
	l := chunksOf(4, 0, 9, 1)
	b := streamOf(t, l)
	before := slices.Clone(b)
	for at := -1; at <= len(b)+1; at++ {
		_, data, _, _ := impl.FrameRead(b, at)
		spoil(data)
	}
	for cut := range len(b) + 1 {
		got, _, _ := impl.Scan(b[:cut])
		for _, c := range got {
			spoil(c.Data)
		}
		impl.Whole(b[:cut])
	}
	if !slices.Equal(b, before) {
		t.Error("an answer lies in the argument, or the argument was changed")
	}
	first, _, _ := impl.Scan(b)
	spoil(b)
	if !sameChunks(first, l) {
		t.Error("an answer changes with the argument")
	}
}

func TestScanChunksShareNothing(t *testing.T) {
	l := chunksOf(4, 0, 9, 1)
	b := streamOf(t, l)
	for i := range l {
		got, _, _ := impl.Scan(b)
		other, _, _ := impl.Scan(b)
		spoil(got[i].Data)
		got[i].Data = l[i].Data
		if !sameChunks(got, l) || !sameChunks(other, l) {
			t.Errorf("chunk %d shares memory with another", i)
		}
	}
}
