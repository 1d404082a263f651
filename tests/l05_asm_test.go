package tests

import (
	"fmt"
	"math"
	"reflect"
	"regexp"
	"slices"
	"strconv"
	"strings"
	"testing"

	"loop.example/g00679/impl"
)

const topNum = 4294967295

// chanOps are the instructions whose field A is a channel.
func chanOps() []int {
	return []int{impl.OpSend, impl.OpRecv, impl.OpClose}
}

// asmValues are ints at the edges of what can be written, and such as wrap round to them in fewer bits.
func asmValues() []int {
	return []int{0, 1, 2, 5, 6, 9, 10, 39, 40, 99, 100, 999, 1000, 65535, 65536, topNum - 1, topNum, topNum + 1, topNum + 2, 1 << 33, 1 << 62, math.MaxInt, -1, -2, -3, -999, -topNum, -topNum - 1, -topNum - 2, math.MinInt, math.MinInt + 1}
}

// wantNum is how a number is written, by the library's formatting, and whether it can be.
func wantNum(v int) (string, bool) {
	return fmt.Sprintf("%d", v), v >= 0 && v <= topNum
}

// wantField is how a field is written, a channel or not.
func wantField(v int, channel bool) (string, bool) {
	if channel && v == -1 {
		return "nil", true
	}
	return wantNum(v)
}

// wantInstrText is the document's rule by the rules that the tests of layer 3 hold.
func wantInstrText(i impl.Instr) string {
	for _, x := range opRules() {
		if x.number != i.Op {
			continue
		}
		text := x.word
		for k, v := range []int{i.A, i.B, i.C} {
			if k >= x.fields {
				if v != 0 {
					return ""
				}
				continue
			}
			word, ok := wantField(v, k == 0 && slices.Contains(chanOps(), i.Op))
			if !ok {
				return ""
			}
			text += " " + word
		}
		return text
	}
	return ""
}

// wantSelectText is the document's rule, told with one format for each kind of case.
func wantSelectText(x impl.Select) string {
	other, right := wantNum(x.Else)
	if x.Else == -1 {
		other, right = "-", true
	}
	text := "select " + other
	for _, c := range x.Cases {
		channel, chanOk := wantField(c.Chan, true)
		_, regOk := wantNum(c.Reg)
		_, okOk := wantNum(c.Ok)
		_, toOk := wantNum(c.To)
		right = right && chanOk && regOk && okOk && toOk && (!c.Send || c.Ok == 0)
		if c.Send {
			text += fmt.Sprintf(" send:%s:%d:%d", channel, c.Reg, c.To)
		} else {
			text += fmt.Sprintf(" recv:%s:%d:%d:%d", channel, c.Reg, c.Ok, c.To)
		}
	}
	if !right {
		return ""
	}
	return text
}

// plainText writes the lines of a program without asking whether it is right or whether they can be written.
func plainText(p impl.Prog) string {
	text := "chans"
	for _, room := range p.Caps {
		text += fmt.Sprintf(" %d", room)
	}
	text += fmt.Sprintf("\nmutexes %d\n", p.Mus)
	for _, s := range p.Sels {
		text += plainLine(wantSelectText(s))
	}
	for _, x := range p.Procs {
		text += "proc\n"
		for _, i := range x.Code {
			text += plainLine(wantInstrText(i))
		}
	}
	return text
}

func plainLine(line string) string {
	if line == "" {
		return "none\n"
	}
	return line + "\n"
}

// shapes of lines, without a bound on their numbers.
const numShape = `(0|[1-9][0-9]*)`
const chanShape = `(nil|` + numShape + `)`

var (
	instrLine  = regexp.MustCompile(`^(halt|(jump|select|lock|unlock|print)( ` + numShape + `)|close ` + chanShape + `|(set|if|spawn)( ` + numShape + `){2}|(add|sub|less)( ` + numShape + `){3}|send ` + chanShape + ` ` + numShape + `|recv ` + chanShape + `( ` + numShape + `){2})$`)
	selectLine = regexp.MustCompile(`^select (-|` + numShape + `)( (send:` + chanShape + `(:` + numShape + `){2}|recv:` + chanShape + `(:` + numShape + `){3}))*$`)
	chansLine  = regexp.MustCompile(`^chans( ` + numShape + `)*$`)
	mutexLine  = regexp.MustCompile(`^mutexes ` + numShape + `$`)
	digitRuns  = regexp.MustCompile(`[0-9]+`)
)

// isLine tells whether s has the shape and no number that is too great.
func isLine(shape *regexp.Regexp, s string) bool {
	for _, digits := range digitRuns.FindAllString(s, -1) {
		if n, err := strconv.ParseUint(digits, 10, 64); err != nil || n > topNum {
			return false
		}
	}
	return shape.MatchString(s)
}

// isProgLines tells whether a text is made of the lines of a program, by shapes alone.
func isProgLines(s string) bool {
	if !strings.HasSuffix(s, "\n") {
		return false
	}
	lines := strings.Split(strings.TrimSuffix(s, "\n"), "\n")
	if len(lines) < 2 || !isLine(chansLine, lines[0]) || !isLine(mutexLine, lines[1]) {
		return false
	}
	shape := selectLine
	for _, line := range lines[2:] {
		if line == "proc" {
			shape = instrLine
		} else if !isLine(shape, line) {
			return false
		}
	}
	return true
}

// nearTexts are texts that differ from s in one place: a byte less, more, or another one, two neighbours exchanged, a word less, doubled or moved, and cut short.
func nearTexts(s string) []string {
	l := []string{"", s + "\n", "\n" + s, s + " ", " " + s, s + "\x00", s + "\r", strings.ToUpper(s), s + s, s + " " + s}
	for at := range len(s) {
		l = append(l, s[:at], s[:at]+s[at+1:], s[at:], s[:at]+s[at:at+1]+s[at:])
		for _, c := range []byte(" 0159:-+.,_xnaA\n\t\r\x00\x80\xff") {
			l = append(l, s[:at]+string([]byte{c})+s[at:], s[:at]+string([]byte{c})+s[at+1:])
		}
		if at > 0 {
			l = append(l, s[:at-1]+s[at:at+1]+s[at-1:at]+s[at+1:])
		}
		l = append(l, s[:at]+"\u00a0"+s[at:], s[:at]+"\u0660"+s[at:])
	}
	for _, mark := range []string{" ", ":"} {
		words := strings.Split(s, mark)
		for at := range words {
			l = append(l, nearWords(words, at, mark)...)
		}
	}
	return l
}

func nearWords(words []string, at int, mark string) []string {
	var l []string
	l = append(l, strings.Join(slices.Delete(slices.Clone(words), at, at+1), mark))
	l = append(l, strings.Join(slices.Insert(slices.Clone(words), at, words[at]), mark))
	for _, other := range []string{"", "0", "1", "00", "01", "-0", "+1", "-1", "-2", "-", "nil", "NIL", "0x1", "1e1", "4294967295", "4294967296", "18446744073709551616", "99999999999999999999999", "halt", "select", "send:0:0:0", "recv:0:0:0:0"} {
		l = append(l, strings.Join(slices.Replace(slices.Clone(words), at, at+1, other), mark))
		l = append(l, strings.Join(slices.Insert(slices.Clone(words), at, other), mark))
	}
	return append(l, strings.Join(append(slices.Clone(words), "0"), mark), strings.Join(append(slices.Clone(words), "nil"), mark))
}

// instrsAtEdges are instructions with each edge in each field, beside fields that are right or not.
func instrsAtEdges() []impl.Instr {
	var l []impl.Instr
	for _, x := range opRules() {
		for _, base := range [][3]int{{0, 0, 0}, {1, 2, 3}, {-1, 5, 0}, {topNum, topNum, topNum}} {
			for field := range 3 {
				for _, v := range asmValues() {
					for named := range 4 {
						f := base
						for k := named; k < 3; k++ {
							f[k] = 0
						}
						f[field] = v
						l = append(l, impl.Instr{Op: x.number, A: f[0], B: f[1], C: f[2]})
					}
				}
			}
		}
	}
	return l
}

func TestMaxText(t *testing.T) {
	if impl.MaxText != 20000 {
		t.Errorf("MaxText is %d", impl.MaxText)
	}
}

func TestInstrTextOneByOne(t *testing.T) {
	known := []struct {
		i    impl.Instr
		text string
	}{
		{impl.Instr{Op: impl.OpHalt}, "halt"},
		{impl.Instr{Op: impl.OpSet, A: 1, B: 999}, "set 1 999"},
		{impl.Instr{Op: impl.OpAdd, A: 1, B: 2, C: 3}, "add 1 2 3"},
		{impl.Instr{Op: impl.OpSub, A: 4, B: 5, C: 0}, "sub 4 5 0"},
		{impl.Instr{Op: impl.OpLess, A: 0, B: 0, C: 0}, "less 0 0 0"},
		{impl.Instr{Op: impl.OpJump, A: 39}, "jump 39"},
		{impl.Instr{Op: impl.OpIf, A: 2, B: 5}, "if 2 5"},
		{impl.Instr{Op: impl.OpSend, A: 3, B: 4}, "send 3 4"},
		{impl.Instr{Op: impl.OpSend, A: -1, B: 4}, "send nil 4"},
		{impl.Instr{Op: impl.OpRecv, A: 2, B: 1, C: 3}, "recv 2 1 3"},
		{impl.Instr{Op: impl.OpRecv, A: -1, B: 1, C: 3}, "recv nil 1 3"},
		{impl.Instr{Op: impl.OpClose, A: 5}, "close 5"},
		{impl.Instr{Op: impl.OpClose, A: -1}, "close nil"},
		{impl.Instr{Op: impl.OpSelect, A: 4}, "select 4"},
		{impl.Instr{Op: impl.OpLock, A: 0}, "lock 0"},
		{impl.Instr{Op: impl.OpUnlock, A: 3}, "unlock 3"},
		{impl.Instr{Op: impl.OpSpawn, A: 1, B: 2}, "spawn 1 2"},
		{impl.Instr{Op: impl.OpPrint, A: 5}, "print 5"},
		{impl.Instr{Op: impl.OpAdd, A: topNum, B: topNum, C: topNum}, "add 4294967295 4294967295 4294967295"},
	}
	for _, x := range known {
		if got := impl.InstrText(x.i); got != x.text {
			t.Errorf("InstrText of %v = %q, not %q", x.i, got, x.text)
		}
		if got, ok := impl.TextInstr(x.text); !ok || got != x.i {
			t.Errorf("TextInstr of %q = %v, %v", x.text, got, ok)
		}
	}
}

func TestInstrTextThereAndBack(t *testing.T) {
	written := map[int]int{}
	for _, i := range instrsAtEdges() {
		text := impl.InstrText(i)
		if text != wantInstrText(i) {
			t.Fatalf("InstrText of %v = %q, not %q", i, text, wantInstrText(i))
		}
		if text == "" {
			continue
		}
		written[i.Op]++
		if got, ok := impl.TextInstr(text); !ok || got != i {
			t.Fatalf("TextInstr of %q = %v, %v", text, got, ok)
		}
	}
	if len(written) != 15 {
		t.Errorf("only %d instructions were written", len(written))
	}
}

// Nil is a channel's alone: a -1 anywhere else can't be written.
func TestInstrTextOfMinusOne(t *testing.T) {
	for _, x := range opRules() {
		for field := range 3 {
			f := [3]int{}
			f[field] = -1
			i := impl.Instr{Op: x.number, A: f[0], B: f[1], C: f[2]}
			want := field == 0 && slices.Contains(chanOps(), x.number)
			if got := impl.InstrText(i); (got != "") != want {
				t.Errorf("InstrText of %v = %q", i, got)
			}
		}
	}
}

func TestInstrTextOfOtherOps(t *testing.T) {
	for _, op := range append(noOps(), 0, impl.OpPrint+1) {
		for _, v := range []int{0, 1, -1} {
			for _, i := range []impl.Instr{{Op: op, A: v}, {Op: op, B: v}, {Op: op, C: v}} {
				if got := impl.InstrText(i); got != "" {
					t.Errorf("InstrText of %v = %q", i, got)
				}
			}
		}
	}
}

// tryInstrText holds what TextInstr answers against the shapes and against InstrText.
func tryInstrText(t *testing.T, s string) {
	t.Helper()
	i, ok := impl.TextInstr(s)
	if ok != isLine(instrLine, s) {
		t.Fatalf("TextInstr of %q = %v, %v", s, i, ok)
	}
	if ok && (impl.InstrText(i) != s || i == impl.Instr{}) {
		t.Fatalf("TextInstr of %q = %v, which is %q", s, i, impl.InstrText(i))
	}
	if !ok && i != (impl.Instr{}) {
		t.Fatalf("TextInstr of %q = %v beside a false", s, i)
	}
}

func TestTextInstrOfNearTexts(t *testing.T) {
	for _, x := range opRules() {
		for _, f := range [][3]int{{0, 0, 0}, {1, 20, 300}, {-1, 4, 5}, {topNum, topNum, topNum}} {
			for k := x.fields; k < 3; k++ {
				f[k] = 0
			}
			text := wantInstrText(impl.Instr{Op: x.number, A: f[0], B: f[1], C: f[2]})
			tryInstrText(t, text)
			for _, near := range nearTexts(text) {
				tryInstrText(t, near)
			}
		}
	}
}

func TestTextInstrOfWrongOnes(t *testing.T) {
	wrong := []string{
		"", " ", "\n", "nop", "Halt", "halt ", " halt", "halt 0", "halt\n", "halt\r", "\x00", "\xff\xfe", "hal", "haltt",
		"set", "set ", "set 1", "set 1 ", "set  1 2", "set 1  2", "set 1 2 ", " set 1 2", "set 1 2 3", "set\t1 2", "set 1\n2", "set 01 2", "set 1 02", "set +1 2", "set -1 2", "set 1 -2", "set 1 4294967296", "set 4294967296 1", "set nil 2", "set 1 nil", "set - 1", "set 1 x", "set 1 2x", "set 1 99999999999999999999", "set:1:2", "set 1:2",
		"if 2", "if nil 1", "jump nil", "jump -1", "jump", "select nil", "select -", "select", "select 0 1", "select 0 recv:0:0:0:0", "lock nil", "unlock nil", "spawn nil 1", "print nil",
		"send nil", "send nil nil", "send 0 nil", "send -1 0", "send Nil 0", "send nil0 0", "send nill 0", "send ni 0", "send nil 0 0", "send  0", "recv nil nil 0", "recv nil 0", "recv 0 0 nil", "recv 0 0 0 0", "recv -1 0 0", "close", "close -1", "close - ", "close nil nil",
		"chans", "mutexes 0", "proc", "send:0:0:0", "1", "8 0 0", "0",
	}
	for _, s := range wrong {
		if i, ok := impl.TextInstr(s); ok || i != (impl.Instr{}) {
			t.Errorf("TextInstr of %q = %v, %v", s, i, ok)
		}
	}
}

// fullSelect has both kinds of cases, each with a channel and with nil.
func fullSelect() impl.Select {
	return impl.Select{Cases: []impl.Case{{Send: true, Chan: 0, Reg: 1, To: 2}, {Chan: -1, Reg: 1, Ok: 3, To: 4}, {Send: true, Chan: -1, Reg: 5, To: 39}, {Chan: 5, Reg: 0, Ok: 2, To: 10}}, Else: 7}
}

func sameSelect(a impl.Select, b impl.Select) bool {
	return a.Else == b.Else && slices.Equal(a.Cases, b.Cases)
}

func TestSelectTextOneByOne(t *testing.T) {
	known := []struct {
		x    impl.Select
		text string
	}{
		{impl.Select{Else: -1}, "select -"},
		{impl.Select{}, "select 0"},
		{impl.Select{Cases: []impl.Case{}, Else: 39}, "select 39"},
		{impl.Select{Else: topNum}, "select 4294967295"},
		{impl.Select{Cases: []impl.Case{{Send: true, Chan: 1, Reg: 2, To: 3}}, Else: -1}, "select - send:1:2:3"},
		{impl.Select{Cases: []impl.Case{{Chan: 1, Reg: 2, Ok: 3, To: 4}}, Else: 5}, "select 5 recv:1:2:3:4"},
		{impl.Select{Cases: []impl.Case{{Send: true, Chan: -1}, {Chan: -1}}, Else: 0}, "select 0 send:nil:0:0 recv:nil:0:0:0"},
		{fullSelect(), "select 7 send:0:1:2 recv:nil:1:3:4 send:nil:5:39 recv:5:0:2:10"},
		{impl.Select{Cases: []impl.Case{{Chan: topNum, Reg: topNum, Ok: topNum, To: topNum}}, Else: -1}, "select - recv:4294967295:4294967295:4294967295:4294967295"},
		{impl.Select{Cases: []impl.Case{{Chan: 1}, {Chan: 1}, {Chan: 1}, {Chan: 1}, {Chan: 1}}, Else: -1}, "select - recv:1:0:0:0 recv:1:0:0:0 recv:1:0:0:0 recv:1:0:0:0 recv:1:0:0:0"},
	}
	for _, x := range known {
		if got := impl.SelectText(x.x); got != x.text {
			t.Errorf("SelectText of %v = %q, not %q", x.x, got, x.text)
		}
		if got, ok := impl.TextSelect(x.text); !ok || !sameSelect(got, x.x) {
			t.Errorf("TextSelect of %q = %v, %v", x.text, got, ok)
		}
	}
}

// trySelect holds SelectText against the rule, and TextSelect against it.
func trySelect(t *testing.T, x impl.Select) {
	t.Helper()
	text := impl.SelectText(x)
	if text != wantSelectText(x) {
		t.Fatalf("SelectText of %v = %q, not %q", x, text, wantSelectText(x))
	}
	got, ok := impl.TextSelect(text)
	if ok != (text != "") || ok && !sameSelect(got, x) {
		t.Fatalf("TextSelect of %q = %v, %v", text, got, ok)
	}
}

// Each edge stands in each field of each case, and as Else.
func TestSelectTextThereAndBack(t *testing.T) {
	for _, v := range asmValues() {
		trySelect(t, impl.Select{Else: v})
		trySelect(t, impl.Select{Cases: fullSelect().Cases, Else: v})
		for at := range fullSelect().Cases {
			for field := range 4 {
				for _, other := range []int{-1, 0, 3} {
					x := fullSelect()
					x.Else = other
					c := &x.Cases[at]
					*[]*int{&c.Chan, &c.Reg, &c.Ok, &c.To}[field] = v
					trySelect(t, x)
					trySelect(t, impl.Select{Cases: x.Cases[at : at+1], Else: other})
				}
			}
		}
	}
}

// Two edges in one case: what can't be written is told whatever stands beside it.
func TestSelectTextOfTwoFields(t *testing.T) {
	for _, send := range []bool{true, false} {
		for _, v := range asmValues() {
			for _, w := range asmValues() {
				for k := range 6 {
					pairs := [6][4]int{{v, w, 0, 0}, {v, 0, w, 0}, {v, 0, 0, w}, {0, v, w, 0}, {0, v, 0, w}, {0, 0, v, w}}
					trySelect(t, impl.Select{Cases: []impl.Case{caseWith(send, pairs[k])}, Else: -1})
				}
			}
		}
	}
}

func TestSelectTextOfManyCases(t *testing.T) {
	x := impl.Select{Else: -1}
	for n := range 3000 {
		x.Cases = append(x.Cases, impl.Case{Send: n%2 == 0, Chan: n%7 - 1, Reg: n, To: n})
	}
	trySelect(t, x)
	x.Cases[2999].To = -1
	trySelect(t, x)
}

func trySelectText(t *testing.T, s string) {
	t.Helper()
	x, ok := impl.TextSelect(s)
	if ok != isLine(selectLine, s) {
		t.Fatalf("TextSelect of %q = %v, %v", s, x, ok)
	}
	if ok && impl.SelectText(x) != s {
		t.Fatalf("TextSelect of %q = %v, which is %q", s, x, impl.SelectText(x))
	}
	if !ok && (len(x.Cases) != 0 || x.Else != 0) {
		t.Fatalf("TextSelect of %q = %v beside a false", s, x)
	}
}

func TestTextSelectOfNearTexts(t *testing.T) {
	other := fullSelect()
	other.Else = -1
	for _, x := range []impl.Select{fullSelect(), other, {Else: -1}, {Else: 0}, {Else: topNum}, {Cases: fullSelect().Cases[:1], Else: -1}, {Cases: fullSelect().Cases[1:2], Else: 0}} {
		trySelectText(t, wantSelectText(x))
		for _, near := range nearTexts(wantSelectText(x)) {
			trySelectText(t, near)
		}
	}
}

func TestTextSelectOfWrongOnes(t *testing.T) {
	wrong := []string{
		"", " ", "\n", "select", "select ", " select -", "select - ", "select  -", "select -\n", "Select -", "selec -", "selects -", "select -1", "select nil", "select --", "select 00", "select 01", "select +1", "select 4294967296", "select x", "select 1 2", "select - -",
		"select send:0:0:0", "select recv:0:0:0:0", "select - send", "select - send:", "select - send:0", "select - send:0:0", "select - send:0:0:0:0", "select - send:0:0:0:", "select - :send:0:0:0", "select - send::0:0", "select - send:0::0", "select - send:-1:0:0", "select - send:nil:nil:0", "select - send:nil:0:nil", "select - send:-:0:0", "select - Send:0:0:0", "select - sent:0:0:0", "select - send 0 0 0", "select - send:0:0: 0", "select - send:0:0:00", "select - send:0:4294967296:0",
		"select - recv", "select - recv:0:0:0", "select - recv:0:0:0:0:0", "select - recv:0:0:0:-", "select - recv:0:0:nil:0", "select - recv:0:nil:0:0", "select - recv:4294967296:0:0:0", "select - recv:0:0:0:0:", "select - recv:0:0:0:+0", "select - recv:0:0:-1:0", "select - recv:0:0:0:0  recv:1:0:0:0", "select - recv:0:0:0:0,recv:1:0:0:0", "select - recv:0:0:0:0 -", "select - close:0", "select - lock:0:0", "select - :0:0:0", "select - ::::", "select - jump:0",
		"recv:0:0:0:0", "- recv:0:0:0:0", "halt", "proc", "chans", "mutexes 0", "\x00", "\xff",
	}
	for _, s := range wrong {
		if x, ok := impl.TextSelect(s); ok || len(x.Cases) != 0 || x.Else != 0 {
			t.Errorf("TextSelect of %q = %v, %v", s, x, ok)
		}
	}
}

// fullLines are the lines of fullProg, written out by hand.
func fullLines() []string {
	return []string{
		"chans 0 2 4", "mutexes 2",
		"select - send:1:2:3 recv:0:4:5:1 recv:nil:1:0:0", "select 2",
		"proc", "set 1 999", "add 2 1 3", "sub 5 4 0", "less 3 2 1", "if 3 8", "spawn 1 2", "select 0", "select 1", "print 5", "jump 4",
		"proc", "lock 1", "send 2 0", "recv nil 1 2", "close 0", "unlock 0", "halt",
	}
}

func joined(lines []string) string {
	return strings.Join(lines, "\n") + "\n"
}

func TestProgTextLineByLine(t *testing.T) {
	text := impl.ProgText(fullProg())
	if !strings.HasSuffix(text, "\n") {
		t.Fatalf("the last line isn't ended: %q", text)
	}
	got := strings.Split(strings.TrimSuffix(text, "\n"), "\n")
	for n, line := range fullLines() {
		if n >= len(got) || got[n] != line {
			t.Errorf("line %d isn't %q, in %q", n, line, text)
		}
	}
	if len(got) != len(fullLines()) {
		t.Errorf("%d lines", len(got))
	}
	least := impl.Prog{Procs: []impl.Proc{codeOf(1)}}
	if got := impl.ProgText(least); got != "chans\nmutexes 0\nproc\nhalt\n" {
		t.Errorf("the text of the least program is %q", got)
	}
}

// sameProg takes lists without elements and lists that are nil as the same.
func sameProg(a impl.Prog, b impl.Prog) bool {
	sameCode := func(x impl.Proc, y impl.Proc) bool { return slices.Equal(x.Code, y.Code) }
	return slices.Equal(a.Caps, b.Caps) && a.Mus == b.Mus && slices.EqualFunc(a.Sels, b.Sels, sameSelect) && slices.EqualFunc(a.Procs, b.Procs, sameCode)
}

// dice gives the same ints from 0 to below n each time.
func dice() func(n int) int {
	state := uint64(20261119)
	return func(n int) int {
		state = state*6364136223846793005 + 1442695040888963407
		return int(state>>33) % n
	}
}

// anyInstr is an instruction that is right in a procedure of n instructions of p.
func anyInstr(roll func(int) int, p impl.Prog, n int) impl.Instr {
	for {
		i := impl.Instr{Op: roll(15) + 1, A: roll(8) - 1, B: roll(8), C: roll(6)}
		if impl.Fields(i.Op) < 3 {
			i.C = 0
		}
		if impl.Fields(i.Op) < 2 {
			i.B = 0
		}
		if impl.Fields(i.Op) < 1 {
			i.A = 0
		}
		if impl.InstrOk(p, n, i) {
			return i
		}
	}
}

// anyProg is a right program whose selects may be met in each of its procedures.
func anyProg(roll func(int) int) impl.Prog {
	p := impl.Prog{Mus: roll(5), Procs: make([]impl.Proc, roll(6)+1)}
	for range roll(7) {
		p.Caps = append(p.Caps, roll(5))
	}
	for range roll(7) {
		s := impl.Select{Else: roll(3) - 1}
		for ch := range min(len(p.Caps), roll(5)) {
			c := impl.Case{Send: roll(2) == 0, Chan: ch - roll(2)*(ch+1), Reg: roll(6), To: roll(2)}
			if !c.Send {
				c.Ok = roll(6)
			}
			s.Cases = append(s.Cases, c)
		}
		if len(s.Cases) == 0 {
			s.Else = roll(2)
		}
		p.Sels = append(p.Sels, s)
	}
	for at := range p.Procs {
		n := roll(39) + 2
		for range n - 1 {
			p.Procs[at].Code = append(p.Procs[at].Code, anyInstr(roll, p, n))
		}
		p.Procs[at].Code = append(p.Procs[at].Code, impl.Instr{Op: impl.OpHalt})
	}
	return p
}

// rightProgs are programs of many kinds, all of them right.
func rightProgs() []impl.Prog {
	l := []impl.Prog{widestProg(), {Procs: []impl.Proc{codeOf(1)}}, {Caps: []int{}, Sels: []impl.Select{}, Procs: []impl.Proc{codeOf(1)}}}
	for _, x := range rightChanges() {
		p := fullProg()
		x.do(&p)
		l = append(l, p)
	}
	roll := dice()
	for range 300 {
		l = append(l, anyProg(roll))
	}
	return l
}

func TestProgTextThereAndBack(t *testing.T) {
	for _, p := range rightProgs() {
		if !impl.ProgOk(p) {
			t.Fatalf("%v isn't right", p)
		}
		text := impl.ProgText(p)
		if text != plainText(p) {
			t.Fatalf("the text of %v is %q", p, text)
		}
		got, code := impl.TextProg(text)
		if code != 0 || !sameProg(got, p) || impl.Print(got) != impl.Print(p) {
			t.Fatalf("TextProg of %q = %v, %d", text, got, code)
		}
	}
}

func TestProgTextOfWrongOnes(t *testing.T) {
	if got := impl.ProgText(impl.Prog{}); got != "" {
		t.Errorf("the text of the empty program is %q", got)
	}
	for _, x := range wrongChanges() {
		p := fullProg()
		x.do(&p)
		if got := impl.ProgText(p); got != "" {
			t.Errorf("text of %s: %q", x.what, got)
		}
	}
	for _, mus := range []int{-1, 5, math.MaxInt, math.MinInt} {
		if got := impl.ProgText(impl.Prog{Mus: mus, Procs: []impl.Proc{codeOf(1)}}); got != "" {
			t.Errorf("text of %d mutexes: %q", mus, got)
		}
	}
}

// ints are the numbers of words that have the right shape; nil and - are -1.
func ints(words []string) []int {
	var l []int
	for _, word := range words {
		n, err := strconv.Atoi(word)
		if err != nil {
			n = -1
		}
		l = append(l, n)
	}
	return l
}

// shapedInstr and shapedSelect read lines whose shapes are right.
func shapedInstr(line string) impl.Instr {
	words := strings.Split(line, " ")
	f := append(ints(words[1:]), 0, 0, 0)
	for _, x := range opRules() {
		if x.word == words[0] {
			return impl.Instr{Op: x.number, A: f[0], B: f[1], C: f[2]}
		}
	}
	return impl.Instr{}
}

func shapedSelect(line string) impl.Select {
	words := strings.Split(line, " ")
	s := impl.Select{Else: ints(words[1:2])[0]}
	for _, word := range words[2:] {
		parts := strings.Split(word, ":")
		f := ints(parts[1:])
		if parts[0] == "send" {
			s.Cases = append(s.Cases, impl.Case{Send: true, Chan: f[0], Reg: f[1], To: f[2]})
		} else {
			s.Cases = append(s.Cases, impl.Case{Chan: f[0], Reg: f[1], Ok: f[2], To: f[3]})
		}
	}
	return s
}

// shapedProg reads a text whose lines all have the right shapes.
func shapedProg(s string) impl.Prog {
	lines := strings.Split(strings.TrimSuffix(s, "\n"), "\n")
	p := impl.Prog{Caps: ints(strings.Split(lines[0], " ")[1:]), Mus: ints(strings.Split(lines[1], " ")[1:])[0]}
	for _, line := range lines[2:] {
		if line == "proc" {
			p.Procs = append(p.Procs, impl.Proc{})
		} else if len(p.Procs) == 0 {
			p.Sels = append(p.Sels, shapedSelect(line))
		} else {
			last := &p.Procs[len(p.Procs)-1]
			last.Code = append(last.Code, shapedInstr(line))
		}
	}
	return p
}

// wantProg is the document's order of codes: the length, the lines by their shapes, and the program.
func wantProg(s string) (impl.Prog, int) {
	if len(s) > 20000 {
		return impl.Prog{}, 1
	}
	if !isProgLines(s) {
		return impl.Prog{}, 2
	}
	p := shapedProg(s)
	if !impl.ProgOk(p) {
		return impl.Prog{}, 3
	}
	return p, 0
}

func tryProgText(t *testing.T, s string) int {
	t.Helper()
	p, code := impl.TextProg(s)
	want, wantCode := wantProg(s)
	if code != wantCode || !sameProg(p, want) {
		t.Fatalf("TextProg of %q = %v, %d, not %v, %d", s, p, code, want, wantCode)
	}
	if code == 0 && impl.ProgText(p) != s {
		t.Fatalf("TextProg of %q = %v, which is %q", s, p, impl.ProgText(p))
	}
	return code
}

func TestTextProgOfNearTexts(t *testing.T) {
	met := map[int]int{}
	for _, text := range []string{joined(fullLines()), "chans\nmutexes 0\nproc\nhalt\n", "chans 0 1\nmutexes 1\nselect - recv:0:1:3:3 recv:1:1:3:3\nproc\nspawn 1 0\nselect 0\nsend nil 0\nhalt\nproc\nrecv 0 1 3\nlock 0\nhalt\n"} {
		if code := tryProgText(t, text); code != 0 {
			t.Fatalf("TextProg of %q has code %d", text, code)
		}
		for _, near := range nearTexts(text) {
			met[tryProgText(t, near)]++
		}
	}
	if met[0] == 0 || met[2] == 0 || met[3] == 0 {
		t.Errorf("not all codes were met: %v", met)
	}
}

// Each line is left out, doubled, exchanged with each other one, or has something else in its stead.
func TestTextProgOfOtherLines(t *testing.T) {
	lines := fullLines()
	for at := range lines {
		tryProgText(t, joined(slices.Delete(slices.Clone(lines), at, at+1)))
		tryProgText(t, joined(lines[:at]))
		tryProgText(t, joined(lines[at:]))
		for k := range lines {
			moved := slices.Clone(lines)
			moved[at], moved[k] = moved[k], moved[at]
			tryProgText(t, joined(moved))
			tryProgText(t, joined(slices.Insert(slices.Clone(lines), at, lines[k])))
			tryProgText(t, joined(slices.Replace(slices.Clone(lines), at, at+1, lines[k])))
		}
		for _, other := range []string{"", " ", "#", "--", "proc 0", "proc ", " proc", "procs", "Proc", "select", "select -", "select 3", "mutexes", "mutexes 2 2", "mutexes nil", "mutexes -", "mutexes 5", "chans nil", "chans -", "chans ", "chans  0", "chans 00", "chans 5", "chans 4294967295", "chans 4294967296", "chan 0", "mutex 0", "halt", "lock 4294967295", "lock 4294967296", "set 0 1000"} {
			tryProgText(t, joined(slices.Insert(slices.Clone(lines), at, other)))
			tryProgText(t, joined(slices.Replace(slices.Clone(lines), at, at+1, other)))
		}
	}
}

func TestTextProgCodes(t *testing.T) {
	full := joined(fullLines())
	known := []struct {
		text string
		code int
	}{
		{"", 2}, {"\n", 2}, {"\n\n", 2}, {"chans", 2}, {"chans\n", 2}, {"chans\nmutexes 0", 2}, {"mutexes 0\nchans\nproc\nhalt\n", 2}, {"mutexes 0\nproc\nhalt\n", 2}, {"chans\nproc\nhalt\n", 2}, {"proc\nhalt\n", 2},
		{"chans\nmutexes 0\n", 3}, {"chans\nmutexes 0\nproc\n", 3}, {"chans\nmutexes 0\nproc\nproc\nhalt\n", 3}, {"chans\nmutexes 0\nproc\nhalt\nproc\n", 3}, {"chans\nmutexes 0\nselect -\nproc\nhalt\n", 3}, {"chans\nmutexes 0\nselect 0\nproc\nhalt\n", 0},
		{"chans\nmutexes 0\nhalt\n", 2}, {"chans\nmutexes 0\nhalt\nproc\nhalt\n", 2}, {"chans\nmutexes 0\nproc\nhalt\nselect -\n", 2}, {"chans\nmutexes 0\nproc\nhalt\nselect 0\n", 3}, {"chans\nmutexes 0\nselect 2\nproc\nselect 0\nhalt\n", 3}, {"chans\nmutexes 0\nselect 1\nproc\nselect 0\nhalt\n", 0},
		{"chans\nmutexes 0\nproc\nhalt", 2}, {"chans\nmutexes 0\nproc\nhalt\n\n", 2}, {"\nchans\nmutexes 0\nproc\nhalt\n", 2}, {"chans\n\nmutexes 0\nproc\nhalt\n", 2}, {"chans\r\nmutexes 0\r\nproc\r\nhalt\r\n", 2}, {"chans\nmutexes 0\nproc\nhalt\n ", 2}, {"chans\nmutexes 0\nproc\nhalt\n\x00", 2},
		{"chans 0 1 2 3 4 0\nmutexes 4\nproc\nhalt\n", 0}, {"chans 0 1 2 3 4 0 1\nmutexes 4\nproc\nhalt\n", 3}, {"chans 5\nmutexes 0\nproc\nhalt\n", 3}, {"chans -1\nmutexes 0\nproc\nhalt\n", 2}, {"chans\nmutexes 5\nproc\nhalt\n", 3}, {"chans\nmutexes -1\nproc\nhalt\n", 2},
		{"chans\nmutexes 0\nproc\nset 5 999\nhalt\n", 0}, {"chans\nmutexes 0\nproc\nset 6 999\nhalt\n", 3}, {"chans\nmutexes 0\nproc\nset 5 1000\nhalt\n", 3}, {"chans\nmutexes 0\nproc\nprint 0\n", 3}, {"chans\nmutexes 0\nproc\nset 0 4294967295\nhalt\n", 3}, {"chans\nmutexes 0\nproc\nset 0 4294967296\nhalt\n", 2},
		{"chans\nmutexes 0\nproc\nset 6 0\nnop\n", 2}, {"chans 9\nmutexes 9\nproc\nhalt", 2}, {full, 0}, {full + full, 2}, {full[:len(full)-1], 2}, {full + "proc\n", 3},
	}
	for _, x := range known {
		if got := tryProgText(t, x.text); got != x.code {
			t.Errorf("TextProg of %q has code %d, not %d", x.text, got, x.code)
		}
	}
}

// sizedText is of n bytes, all its lines are read, and it is no right program for its many channels.
func sizedText(n int) string {
	rest := "\nmutexes 0\nproc\nhalt\n"
	caps := n - len("chans") - len(rest)
	if caps%2 == 1 {
		return "chans 10" + strings.Repeat(" 0", (caps-3)/2) + rest
	}
	return "chans" + strings.Repeat(" 0", caps/2) + rest
}

// The length is looked at first: what is too long has code 1 whatever stands there.
func TestTextProgOfLongTexts(t *testing.T) {
	for n, code := range map[int]int{19999: 3, 20000: 3, 20001: 1, 20002: 1, 40000: 1} {
		s := sizedText(n)
		if len(s) != n || tryProgText(t, s) != code {
			t.Errorf("a text of %d bytes (%d) has code %d, not %d", n, len(s), tryProgText(t, s), code)
		}
		other := 2
		if code == 1 {
			other = 1
		}
		for _, s := range []string{strings.Repeat("\n", n), strings.Repeat("x", n), strings.Repeat(" ", n), "\n" + s[1:], s[:n-1] + " ", strings.Repeat("\x00", n), strings.Repeat("\u00e4", n)[:n]} {
			if got := tryProgText(t, s); got != other {
				t.Errorf("a text of %d bytes that isn't made of lines has code %d, not %d", n, got, other)
			}
		}
	}
	full := joined(fullLines())
	if got := tryProgText(t, full+strings.Repeat("halt\n", 5000)); got != 1 {
		t.Errorf("a long text that begins right has code %d", got)
	}
	if got := tryProgText(t, full+strings.Repeat("halt\n", 3000)); got != 3 {
		t.Errorf("a procedure of 3006 instructions has code %d", got)
	}
}

// A program that isn't right has code 3 as a text, if its lines can be written, and else code 2.
func TestTextProgOfWrongProgs(t *testing.T) {
	met := map[int]int{}
	for _, x := range wrongChanges() {
		p := fullProg()
		x.do(&p)
		code := tryProgText(t, plainText(p))
		met[code]++
		if code == 0 {
			t.Errorf("read: %s", x.what)
		}
	}
	if met[2] == 0 || met[3] == 0 {
		t.Errorf("the codes were %v", met)
	}
}

func TestAsmLeavesArguments(t *testing.T) {
	for _, x := range append(rightChanges(), wrongChanges()...) {
		p := fullProg()
		x.do(&p)
		p.Caps = append(make([]int, 0, 20), p.Caps...)
		for at := range p.Sels {
			p.Sels[at].Cases = append(make([]impl.Case, 0, 20), p.Sels[at].Cases...)
		}
		before := copyProg(p)
		impl.ProgText(p)
		for _, s := range p.Sels {
			impl.SelectText(s)
			if slices.ContainsFunc(s.Cases[len(s.Cases):cap(s.Cases)], func(c impl.Case) bool { return c != impl.Case{} }) {
				t.Errorf("written behind the cases: %s", x.what)
			}
		}
		if !reflect.DeepEqual(p, before) {
			t.Errorf("changed: %s", x.what)
		}
		if slices.ContainsFunc(p.Caps[len(p.Caps):cap(p.Caps)], func(v int) bool { return v != 0 }) {
			t.Errorf("written behind the capacities: %s", x.what)
		}
	}
}

// spoilProg writes into all lists of p, and behind their ends as far as they have room.
func spoilProg(p impl.Prog) {
	spoil := func(s impl.Select) {
		for k := range s.Cases[:cap(s.Cases)] {
			s.Cases[:cap(s.Cases)][k].Chan = 77
		}
	}
	for k := range p.Caps[:cap(p.Caps)] {
		p.Caps[:cap(p.Caps)][k] = 77
	}
	for _, s := range p.Sels {
		spoil(s)
	}
	for _, x := range p.Procs {
		for k := range x.Code[:cap(x.Code)] {
			x.Code[:cap(x.Code)][k].A = 77
		}
	}
}

func TestTextProgIsNewMemory(t *testing.T) {
	for _, p := range rightProgs()[:20] {
		text := impl.ProgText(p)
		first, _ := impl.TextProg(text)
		second, _ := impl.TextProg(text)
		spoilProg(first)
		if !sameProg(second, p) || impl.ProgText(second) != text {
			t.Fatalf("the programs of two calls share memory: %q", text)
		}
		for at := range second.Sels {
			one := copyProg(second)
			spoilProg(impl.Prog{Sels: second.Sels[at : at+1]})
			one.Sels[at] = second.Sels[at]
			if !sameProg(one, second) {
				t.Fatalf("the select %d shares memory with another list: %q", at, text)
			}
		}
		for at := range second.Procs {
			one := copyProg(second)
			spoilProg(impl.Prog{Procs: second.Procs[at : at+1]})
			one.Procs[at] = second.Procs[at]
			if !sameProg(one, second) {
				t.Fatalf("the procedure %d shares memory with another list: %q", at, text)
			}
		}
	}
	x, _ := impl.TextSelect(wantSelectText(fullSelect()))
	y, _ := impl.TextSelect(wantSelectText(fullSelect()))
	x.Cases[0].Chan = 77
	if !sameSelect(y, fullSelect()) {
		t.Error("the selects of two calls share memory")
	}
}

// What was read or written in one call is not met in the next one.
func TestAsmKeepsNothing(t *testing.T) {
	full := joined(fullLines())
	for _, near := range nearTexts("chans 1\nmutexes 0\nproc\nsend 0 0\nhalt\n") {
		impl.TextProg(near)
		impl.TextInstr(near)
		impl.TextSelect(near)
		p, code := impl.TextProg(full)
		i, iOk := impl.TextInstr("recv nil 1 2")
		x, xOk := impl.TextSelect("select 3 recv:1:2:3:4")
		if code != 0 || !sameProg(p, fullProg()) || impl.ProgText(fullProg()) != full {
			t.Fatalf("a program is told otherwise behind %q", near)
		}
		if !iOk || i != (impl.Instr{Op: impl.OpRecv, A: -1, B: 1, C: 2}) || !xOk || !sameSelect(x, impl.Select{Cases: []impl.Case{{Chan: 1, Reg: 2, Ok: 3, To: 4}}, Else: 3}) {
			t.Fatalf("a line is told otherwise behind %q", near)
		}
	}
}
