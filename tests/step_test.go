package tests

import (
	"fmt"
	"math"
	"slices"
	"strings"
	"testing"

	"loop.example/g00605/impl"
)

// A span is a range of a field, both ends included.
type span struct{ lo, hi int }

// A kindRow is a row of the document's table of kinds. Spans holds the ranges
// of Op, Dst, Src, Imm and To; nil stands for a field that the kind lacks.
type kindRow struct {
	kind  int
	name  string
	spans [5]*span
}

const (
	fieldOp = iota
	fieldDst
	fieldSrc
	fieldImm
	fieldTo
)

var (
	opSpan   = &span{1, 10}
	regSpan  = &span{0, 5}
	byteSpan = &span{0, 255}
	skipSpan = &span{1, 19}
)

var kindRows = []kindRow{
	{impl.StOp, "op", [5]*span{opSpan, regSpan, regSpan, nil, nil}},
	{impl.StOpImm, "opi", [5]*span{opSpan, regSpan, nil, byteSpan, nil}},
	{impl.StSet, "set", [5]*span{nil, regSpan, nil, byteSpan, nil}},
	{impl.StWide, "wide", [5]*span{nil, regSpan, nil, {256, 65535}, nil}},
	{impl.StCtx, "ctx", [5]*span{nil, regSpan, regSpan, {0, 7}, nil}},
	{impl.StLoad, "load", [5]*span{nil, regSpan, nil, byteSpan, nil}},
	{impl.StStore, "store", [5]*span{nil, regSpan, nil, byteSpan, nil}},
	{impl.StJump, "jump", [5]*span{nil, nil, nil, nil, skipSpan}},
	{impl.StEq, "eq", [5]*span{nil, regSpan, regSpan, nil, skipSpan}},
	{impl.StLess, "less", [5]*span{nil, regSpan, regSpan, nil, skipSpan}},
	{impl.StExit, "exit", [5]*span{}},
}

func fieldsOfStep(s impl.Step) [5]int {
	return [5]int{s.Op, s.Dst, s.Src, s.Imm, s.To}
}

func stepOfFields(kind int, f [5]int) impl.Step {
	return impl.Step{Kind: kind, Op: f[fieldOp], Dst: f[fieldDst], Src: f[fieldSrc], Imm: f[fieldImm], To: f[fieldTo]}
}

func rowOf(kind int) (kindRow, bool) {
	for _, r := range kindRows {
		if r.kind == kind {
			return r, true
		}
	}
	return kindRow{}, false
}

func wantGoodStep(s impl.Step) bool {
	row, ok := rowOf(s.Kind)
	if !ok {
		return false
	}
	for i, n := range fieldsOfStep(s) {
		r := row.spans[i]
		if r == nil {
			r = &span{0, 0}
		}
		if n < r.lo || n > r.hi {
			return false
		}
	}
	return true
}

func wantText(s impl.Step) string {
	row, _ := rowOf(s.Kind)
	words := []string{row.name}
	for i, n := range fieldsOfStep(s) {
		if row.spans[i] != nil {
			words = append(words, fmt.Sprint(n))
		}
	}
	return strings.Join(words, " ")
}

func wantBytes(s impl.Step) string {
	b := []byte{byte(s.Op<<4 | s.Kind), byte(s.Dst<<4 | s.Src), byte(s.To), byte(s.Imm)}
	if s.Kind == impl.StWide {
		b = append(b, 0, 0, 0, byte(s.Imm>>8))
	}
	return string(b)
}

func wantGoodProgram(p []impl.Step) bool {
	if len(p) < 1 || len(p) > 20 || p[len(p)-1] != (impl.Step{Kind: impl.StExit}) {
		return false
	}
	for i, s := range p {
		if !wantGoodStep(s) || s.To > 0 && i+s.To+1 >= len(p) {
			return false
		}
	}
	return true
}

// wantRead follows the document's table of codes, unit by unit.
func wantRead(s string) ([]impl.Step, int, bool) {
	if len(s) > 160 {
		return nil, 0, false
	}
	var p []impl.Step
	for i := 0; i < len(s); {
		if len(s)-i < 4 || s[i]&15 == impl.StWide && len(s)-i < 8 {
			return nil, 1, false
		}
		step := impl.Step{
			Kind: int(s[i] & 15), Op: int(s[i] >> 4),
			Dst: int(s[i+1] >> 4), Src: int(s[i+1] & 15),
			To: int(s[i+2]), Imm: int(s[i+3]),
		}
		size := 4
		if step.Kind == impl.StWide {
			size = 8
			if s[i+4]|s[i+5]|s[i+6] != 0 {
				return nil, 2, false
			}
			step.Imm |= int(s[i+7]) << 8
		}
		if !wantGoodStep(step) {
			return nil, 2, false
		}
		p = append(p, step)
		i += size
	}
	if !wantGoodProgram(p) {
		return nil, 3, false
	}
	return p, 0, true
}

// oddNumbers are the ends of all ranges, their neighbours, the numbers that
// become those when cut to 4, 8, 16 or 32 bits, and the extremes of int.
var oddNumbers = []int{
	math.MinInt, math.MinInt + 1, -1 << 32, -65536, -256, -16, -2, -1,
	0, 1, 2, 5, 6, 7, 8, 10, 11, 15, 16, 17, 18, 19, 20, 21, 26, 27,
	255, 256, 257, 263, 271, 65535, 65536, 65537, 65792, 1 << 32, 1<<32 + 1, 1<<32 + 256,
	math.MaxInt - 1, math.MaxInt,
}

// endSteps returns the valid steps of a kind that have each field at an end of
// its range.
func endSteps(row kindRow) []impl.Step {
	l := []impl.Step{{Kind: row.kind}}
	for i, r := range row.spans {
		if r == nil {
			continue
		}
		var longer []impl.Step
		for _, s := range l {
			for _, n := range []int{r.lo, r.hi} {
				f := fieldsOfStep(s)
				f[i] = n
				longer = append(longer, stepOfFields(row.kind, f))
			}
		}
		l = longer
	}
	return l
}

// eachOddStep visits the end steps of all kinds, of kinds that there are not,
// and all of these with one or two fields replaced by odd numbers.
func eachOddStep(visit func(s impl.Step)) {
	for _, row := range kindRows {
		for _, s := range endSteps(row) {
			visit(s)
			for _, kind := range oddNumbers {
				visit(stepOfFields(kind, fieldsOfStep(s)))
			}
			eachChange(s, visit)
		}
	}
}

func eachChange(s impl.Step, visit func(s impl.Step)) {
	for i := range 5 {
		for j := i; j < 5; j++ {
			for _, n := range oddNumbers {
				for _, m := range oddNumbers {
					f := fieldsOfStep(s)
					f[i] = n
					f[j] = m
					visit(stepOfFields(s.Kind, f))
				}
			}
		}
	}
}

// hold returns a program of MaxSteps steps that begins with the step. It is
// valid if the step is, except that no program has room for a jump over
// MaxSteps - 1 steps.
func hold(s impl.Step) []impl.Step {
	p := slices.Repeat([]impl.Step{{Kind: impl.StExit}}, impl.MaxSteps)
	p[0] = s
	return p
}

func TestStepConstants(t *testing.T) {
	if impl.MaxSteps != 20 || impl.Regs != 6 {
		t.Errorf("MaxSteps = %d, Regs = %d", impl.MaxSteps, impl.Regs)
	}
	for i, row := range kindRows {
		if row.kind != i+1 {
			t.Errorf("the kind %s is %d", row.name, row.kind)
		}
	}
}

func TestStepBytesAndTextOfOddSteps(t *testing.T) {
	good := 0
	eachOddStep(func(s impl.Step) {
		want := wantGoodStep(s)
		bytes, text := "", ""
		if want {
			good++
			bytes, text = wantBytes(s), wantText(s)
		}
		if b, ok := impl.StepBytes(s); b != bytes || ok != want {
			t.Fatalf("StepBytes(%+v) = %q, %t, want %q, %t", s, b, ok, bytes, want)
		}
		if x, ok := impl.StepText(s); x != text || ok != want {
			t.Fatalf("StepText(%+v) = %q, %t, want %q, %t", s, x, ok, text, want)
		}
	})
	if good == 0 {
		t.Error("no step was valid")
	}
}

func TestStepValues(t *testing.T) {
	cases := []struct {
		s     impl.Step
		bytes string
		text  string
	}{
		{impl.Step{Kind: impl.StOp, Op: 10, Dst: 5, Src: 4}, "\xa1\x54\x00\x00", "op 10 5 4"},
		{impl.Step{Kind: impl.StOpImm, Op: 1, Dst: 2, Imm: 255}, "\x12\x20\x00\xff", "opi 1 2 255"},
		{impl.Step{Kind: impl.StSet, Dst: 3}, "\x03\x30\x00\x00", "set 3 0"},
		{impl.Step{Kind: impl.StWide, Dst: 1, Imm: 258}, "\x04\x10\x00\x02\x00\x00\x00\x01", "wide 1 258"},
		{impl.Step{Kind: impl.StWide, Imm: 256}, "\x04\x00\x00\x00\x00\x00\x00\x01", "wide 0 256"},
		{impl.Step{Kind: impl.StWide, Dst: 5, Imm: 65535}, "\x04\x50\x00\xff\x00\x00\x00\xff", "wide 5 65535"},
		{impl.Step{Kind: impl.StCtx, Dst: 1, Src: 2, Imm: 7}, "\x05\x12\x00\x07", "ctx 1 2 7"},
		{impl.Step{Kind: impl.StLoad, Dst: 4, Imm: 16}, "\x06\x40\x00\x10", "load 4 16"},
		{impl.Step{Kind: impl.StStore, Dst: 4, Imm: 15}, "\x07\x40\x00\x0f", "store 4 15"},
		{impl.Step{Kind: impl.StJump, To: 19}, "\x08\x00\x13\x00", "jump 19"},
		{impl.Step{Kind: impl.StEq, Dst: 1, Src: 5, To: 1}, "\x09\x15\x01\x00", "eq 1 5 1"},
		{impl.Step{Kind: impl.StLess, Src: 3, To: 10}, "\x0a\x03\x0a\x00", "less 0 3 10"},
		{impl.Step{Kind: impl.StExit}, "\x0b\x00\x00\x00", "exit"},
	}
	for _, c := range cases {
		if b, ok := impl.StepBytes(c.s); b != c.bytes || !ok {
			t.Errorf("StepBytes(%+v) = %q, %t, want %q, true", c.s, b, ok, c.bytes)
		}
		if x, ok := impl.StepText(c.s); x != c.text || !ok {
			t.Errorf("StepText(%+v) = %q, %t, want %q, true", c.s, x, ok, c.text)
		}
	}
}

func TestWideImmediates(t *testing.T) {
	for imm, want := range map[int]bool{
		math.MinInt: false, -1: false, 0: false, 2: false, 255: false, 256: true, 257: true,
		65280: true, 65535: true, 65536: false, 65792: false, math.MaxInt: false,
	} {
		s := impl.Step{Kind: impl.StWide, Dst: 2, Imm: imm}
		if _, ok := impl.StepBytes(s); ok != want {
			t.Errorf("StepBytes of a wide step with Imm %d returns %t", imm, ok)
		}
		if ok := impl.GoodProgram([]impl.Step{s, {Kind: impl.StExit}}); ok != want {
			t.Errorf("GoodProgram with a wide step with Imm %d returns %t", imm, ok)
		}
	}
	for imm := 0; imm < 65536; imm++ {
		s := "\x04\x20\x00" + string([]byte{byte(imm)}) + "\x00\x00\x00" + string([]byte{byte(imm >> 8)}) + "\x0b\x00\x00\x00"
		p, code, ok := impl.ReadProgram(s)
		if imm < 256 {
			if len(p) != 0 || code != 2 || ok {
				t.Fatalf("ReadProgram with a wide step with Imm %d returns %v, %d, %t", imm, p, code, ok)
			}
			continue
		}
		if len(p) != 2 || p[0] != (impl.Step{Kind: impl.StWide, Dst: 2, Imm: imm}) || code != 0 || !ok {
			t.Fatalf("ReadProgram with a wide step with Imm %d returns %v, %d, %t", imm, p, code, ok)
		}
	}
}

func checkProgram(t *testing.T, p []impl.Step) {
	t.Helper()
	want := wantGoodProgram(p)
	if ok := impl.GoodProgram(p); ok != want {
		t.Fatalf("GoodProgram(%v) = %t", p, ok)
	}
	bytes := ""
	var slots []int
	if want {
		for _, s := range p {
			slots = append(slots, len(bytes)/4)
			bytes += wantBytes(s)
		}
	}
	b, ok := impl.ProgramBytes(p)
	if b != bytes || ok != want {
		t.Fatalf("ProgramBytes(%v) = %q, %t, want %q, %t", p, b, ok, bytes, want)
	}
	if l, ok := impl.SlotsOf(p); !slices.Equal(l, slots) || ok != want {
		t.Fatalf("SlotsOf(%v) = %v, %t, want %v, %t", p, l, ok, slots, want)
	}
	if want {
		if r, code, ok := impl.ReadProgram(b); !slices.Equal(r, p) || code != 0 || !ok {
			t.Fatalf("ReadProgram(%q) = %v, %d, %t, want %v, 0, true", b, r, code, ok, p)
		}
	}
	for at := -2; at <= len(p)+2; at++ {
		checkNexts(t, p, at)
	}
}

func checkNexts(t *testing.T, p []impl.Step, at int) {
	t.Helper()
	want := wantGoodProgram(p) && 0 <= at && at < len(p)
	var nexts []int
	if want {
		s := p[at]
		if s.Kind != impl.StJump && s.Kind != impl.StExit {
			nexts = append(nexts, at+1)
		}
		if s.To > 0 {
			nexts = append(nexts, at+1+s.To)
		}
	}
	if l, ok := impl.NextsOf(p, at); !slices.Equal(l, nexts) || ok != want {
		t.Fatalf("NextsOf(%v, %d) = %v, %t, want %v, %t", p, at, l, ok, nexts, want)
	}
}

func checkRead(t *testing.T, s string) {
	t.Helper()
	want, wantCode, wantOk := wantRead(s)
	p, code, ok := impl.ReadProgram(s)
	if !slices.Equal(p, want) || code != wantCode || ok != wantOk {
		t.Fatalf("ReadProgram(%q) = %v, %d, %t, want %v, %d, %t", s, p, code, ok, want, wantCode, wantOk)
	}
	if !ok {
		return
	}
	if b, ok := impl.ProgramBytes(p); b != s || !ok {
		t.Fatalf("the program of %q has the encoding %q, %t", s, b, ok)
	}
}

// Promise 2, with every kind of step in a program.
func TestProgramsWithOddSteps(t *testing.T) {
	for _, row := range kindRows {
		for _, s := range endSteps(row) {
			checkProgram(t, hold(s))
			for i := range 5 {
				for _, n := range oddNumbers {
					f := fieldsOfStep(s)
					f[i] = n
					checkProgram(t, hold(stepOfFields(s.Kind, f)))
				}
			}
			for _, kind := range oddNumbers {
				checkProgram(t, hold(stepOfFields(kind, fieldsOfStep(s))))
			}
		}
	}
}

// A fault of a single step is found wherever the step is.
func TestBadStepAnywhere(t *testing.T) {
	for size := 1; size <= impl.MaxSteps; size++ {
		for at := range size {
			p := slices.Repeat([]impl.Step{{Kind: impl.StExit}}, size)
			checkProgram(t, p)
			for _, bad := range []impl.Step{{}, {Kind: 12}, {Kind: impl.StExit, To: 1}, {Kind: impl.StSet, Imm: 256}, {Kind: impl.StOp}} {
				p[at] = bad
				if impl.GoodProgram(p) {
					t.Fatalf("GoodProgram accepts %v", p)
				}
				checkProgram(t, p)
			}
		}
	}
}

func TestProgramLengths(t *testing.T) {
	set, exit := impl.Step{Kind: impl.StSet}, impl.Step{Kind: impl.StExit}
	for _, fill := range []impl.Step{set, exit, {Kind: impl.StWide, Imm: 256}} {
		for size := range 45 {
			p := slices.Repeat([]impl.Step{fill}, size)
			if size > 0 {
				p[size-1] = exit
			}
			want := 1 <= size && size <= 20
			if ok := impl.GoodProgram(p); ok != want {
				t.Errorf("GoodProgram of %d steps returns %t", size, ok)
			}
			checkProgram(t, p)
			s := ""
			for _, x := range p {
				s += wantBytes(x)
			}
			checkRead(t, s)
		}
	}
}

func TestLastStep(t *testing.T) {
	for _, row := range kindRows {
		for _, s := range endSteps(row) {
			for size := 1; size <= impl.MaxSteps; size++ {
				p := slices.Repeat([]impl.Step{{Kind: impl.StExit}}, size)
				p[size-1] = s
				if ok := impl.GoodProgram(p); ok != (s.Kind == impl.StExit) {
					t.Fatalf("GoodProgram of %d steps, the last of which is %+v, returns %t", size, s, ok)
				}
				checkProgram(t, p)
			}
		}
	}
}

func TestJumpTargets(t *testing.T) {
	for _, kind := range []int{impl.StJump, impl.StEq, impl.StLess} {
		for size := 2; size <= impl.MaxSteps; size++ {
			for at := range size - 1 {
				for to := 1; to < impl.MaxSteps; to++ {
					p := slices.Repeat([]impl.Step{{Kind: impl.StExit}}, size)
					p[at] = impl.Step{Kind: kind, To: to}
					if ok, want := impl.GoodProgram(p), at+to+1 <= size-1; ok != want {
						t.Fatalf("GoodProgram of %d steps with a jump at %d over %d returns %t", size, at, to, ok)
					}
					checkProgram(t, p)
					s := ""
					for _, x := range p {
						s += wantBytes(x)
					}
					checkRead(t, s)
				}
			}
		}
	}
}

func TestReadProgramCodes(t *testing.T) {
	exit, set, wide := "\x0b\x00\x00\x00", "\x03\x10\x00\x05", "\x04\x10\x00\x02\x00\x00\x00\x01"
	cases := []struct {
		name string
		s    string
		code int
	}{
		{"the empty string", "", 3},
		{"one byte", "\x03", 1},
		{"one byte of no kind", "\x00", 1},
		{"three bytes", exit[:3], 1},
		{"1 byte left over", exit + "\x00", 1},
		{"2 bytes left over", exit + "\x00\x00", 1},
		{"3 bytes left over", exit + exit[:3], 1},
		{"4 bytes of a wide step", exit + wide[:4], 1},
		{"5 bytes of a wide step", exit + wide[:5], 1},
		{"6 bytes of a wide step", exit + wide[:6], 1},
		{"7 bytes of a wide step", exit + wide[:7], 1},
		{"4 bytes of a wide step with an Op", "\xf4\xff\xff\xff", 1},
		{"7 bytes of a wide step with an Op", "\x14\x10\x00\x02\x00\x00\x01", 1},
		{"a whole wide step with an Op", "\x14\x10\x00\x02\x00\x00\x00\x01" + exit, 2},
		{"a wide step with a Src", "\x04\x11\x00\x02\x00\x00\x00\x01" + exit, 2},
		{"a wide step with a To", "\x04\x10\x01\x02\x00\x00\x00\x01" + exit, 2},
		{"a wide step with a small Imm", "\x04\x10\x00\x02\x00\x00\x00\x00" + exit, 2},
		{"a wide step with byte 4 not 0", "\x04\x10\x00\x02\x01\x00\x00\x01" + exit, 2},
		{"a wide step with byte 5 not 0", "\x04\x10\x00\x02\x00\x80\x00\x01" + exit, 2},
		{"a wide step with byte 6 not 0", "\x04\x10\x00\x02\x00\x00\x10\x01" + exit, 2},
		{"four zero bytes", exit + "\x00\x00\x00\x00", 2},
		{"a kind after the last", "\x0c\x00\x00\x00" + exit, 2},
		{"an exit with an Imm", "\x0b\x00\x00\x01", 2},
		{"a register 6", "\x03\x60\x00\x00" + exit, 2},
		{"a context index 8", "\x05\x00\x00\x08" + exit, 2},
		{"an operation 0", "\x01\x00\x00\x00" + exit, 2},
		{"an operation 11", "\xb1\x00\x00\x00" + exit, 2},
		{"a jump over nothing", "\x08\x00\x00\x00" + exit, 2},
		{"a jump over 20 steps", "\x08\x00\x14\x00" + exit, 2},
		{"no exit at the end", set, 3},
		{"a wide step at the end", wide, 3},
		{"a jump beyond the end", "\x08\x00\x01\x00" + exit, 3},
		{"a branch beyond the end", "\x0a\x00\x02\x00" + exit + exit, 3},
		{"21 steps", strings.Repeat(exit, 21), 3},
		{"40 steps", strings.Repeat(exit, 40), 3},
		{"20 wide steps", strings.Repeat(wide, 20), 3},
		// Two faults: the one that is met first counts.
		{"a bad step, then a byte left over", "\x00\x00\x00\x00\x03", 2},
		{"a bad step, then a cut wide step", "\x0b\x00\x00\x01" + wide[:7], 2},
		{"a jump beyond the end, then a bad step", "\x08\x00\x13\x00\x00\x00\x00\x00", 2},
		{"a jump beyond the end, then a byte left over", "\x08\x00\x13\x00" + exit + "\x0b", 1},
		{"no exit at the end, but a byte left over", set + "\x00", 1},
		{"21 steps, the last of them bad", strings.Repeat(exit, 20) + "\x00\x00\x00\x00", 2},
		{"21 steps and a byte left over", strings.Repeat(exit, 21) + "\x00", 1},
		{"39 steps and three bytes", strings.Repeat(exit, 39) + exit[:3], 1},
		{"39 steps and half a wide step", strings.Repeat(exit, 39) + wide[:4], 1},
		// Too long is no argument of the function, whatever else is wrong.
		{"161 bytes", strings.Repeat(exit, 40) + "\x00", 0},
		{"164 bytes", strings.Repeat(exit, 41), 0},
		{"164 bytes of wide steps", strings.Repeat(wide, 20) + exit, 0},
		{"161 zero bytes", strings.Repeat("\x00", 161), 0},
		{"a valid program and many bytes", exit + strings.Repeat("\x00", 70000), 0},
	}
	for _, c := range cases {
		if p, code, ok := impl.ReadProgram(c.s); len(p) != 0 || code != c.code || ok {
			t.Errorf("%s: ReadProgram returns %v, %d, %t, want code %d", c.name, p, code, ok, c.code)
		}
		checkRead(t, c.s)
	}
}

func TestLongestProgram(t *testing.T) {
	p := slices.Repeat([]impl.Step{{Kind: impl.StWide, Dst: 5, Imm: 65535}}, 20)
	p[19] = impl.Step{Kind: impl.StExit}
	checkProgram(t, p)
	if b, ok := impl.ProgramBytes(p); len(b) != 156 || !ok {
		t.Errorf("ProgramBytes returns %d bytes, %t", len(b), ok)
	}
	if l, ok := impl.SlotsOf(p); len(l) != 20 || l[19] != 38 || !ok {
		t.Errorf("SlotsOf returns %v, %t", l, ok)
	}
}

// Every first unit with all four fields of 4 bits, and the ends of the ranges
// of the two bytes.
func TestReadEveryFirstUnit(t *testing.T) {
	tail := strings.Repeat("\x0b\x00\x00\x00", 19)
	for head := range 256 {
		for regs := range 256 {
			for _, to := range []byte{0, 1, 18, 19, 20, 128} {
				for _, imm := range []byte{0, 1, 7, 8, 255} {
					unit := string([]byte{byte(head), byte(regs), to, imm})
					checkRead(t, unit+tail)
				}
			}
			unit := string([]byte{byte(head), byte(regs), 0, 3})
			checkRead(t, unit+"\x00\x00\x00\x01"+tail)
		}
	}
}

// A lcg is a generator of numbers that are the same in each run.
type lcg uint64

func (g *lcg) below(n int) int {
	*g = *g*6364136223846793005 + 1442695040888963407
	return int(uint64(*g)>>33) % n
}

// oftenSmall returns an odd number, but more often one that may be valid.
func oftenSmall(g *lcg) int {
	if g.below(3) == 0 {
		return oddNumbers[g.below(len(oddNumbers))]
	}
	return g.below(6)
}

func someProgram(g *lcg) []impl.Step {
	p := make([]impl.Step, 1+g.below(impl.MaxSteps))
	for i := range p {
		row := kindRows[g.below(len(kindRows))]
		far := len(p) - 2 - i
		if i == len(p)-1 || row.spans[fieldTo] != nil && far < 1 {
			row = kindRows[impl.StExit-1]
		}
		var f [5]int
		for j, r := range row.spans {
			if r == nil {
				continue
			}
			hi := r.hi
			if j == fieldTo {
				hi = far
			}
			f[j] = r.lo + g.below(hi-r.lo+1)
		}
		p[i] = stepOfFields(row.kind, f)
	}
	return p
}

// Promise 2: each string is accepted only if it is the encoding of what it is
// decoded to; a changed bit, a byte less or a byte more is not overlooked.
func TestDecodeChangedEncodings(t *testing.T) {
	g := lcg(2)
	for range 400 {
		p := someProgram(&g)
		if !impl.GoodProgram(p) {
			t.Fatalf("GoodProgram rejects %v", p)
		}
		checkProgram(t, p)
		s, _ := impl.ProgramBytes(p)
		for i := range len(s) * 8 {
			b := []byte(s)
			b[i/8] ^= 1 << (i % 8)
			checkRead(t, string(b))
			if r, _, ok := impl.ReadProgram(string(b)); ok && slices.Equal(r, p) {
				t.Fatalf("%q and %q are both accepted for %v", s, b, p)
			}
		}
		for i := range len(s) {
			checkRead(t, s[:i])
			checkRead(t, s[i:])
			checkRead(t, s[:i]+s[i+1:])
			checkRead(t, s[:i]+"\x00"+s[i:])
		}
		for extra := 1; extra <= 8; extra++ {
			for _, first := range []byte{0x00, 0x03, 0x04, 0x0b, 0x14, 0xf4, 0xff} {
				b := make([]byte, extra)
				b[0] = first
				checkRead(t, s+string(b))
				b[extra-1] |= 1
				checkRead(t, s+string(b))
			}
		}
	}
}

func TestReadArbitraryStrings(t *testing.T) {
	g := lcg(3)
	heads := []byte{1, 0x12, 0xa2, 3, 4, 5, 6, 7, 8, 9, 10, 11, 0x14, 0, 12}
	for range 60000 {
		b := make([]byte, g.below(170))
		for i := range b {
			switch i % 4 {
			case 0:
				b[i] = heads[g.below(len(heads))]
			case 3:
				b[i] = byte(g.below(9))
			default:
				b[i] = byte(g.below(3)) * byte(g.below(2))
			}
		}
		checkRead(t, string(b))
	}
}

// Promise 19: an index outside the program gives the zero result.
func TestNextsOfFarIndexes(t *testing.T) {
	p := []impl.Step{{Kind: impl.StEq, To: 1}, {Kind: impl.StSet}, {Kind: impl.StExit}}
	for _, at := range []int{math.MinInt, math.MinInt + 1, -1 << 32, -3, -1, 3, 4, 20, 1 << 32, math.MaxInt - 1, math.MaxInt} {
		if l, ok := impl.NextsOf(p, at); len(l) != 0 || ok {
			t.Errorf("NextsOf(p, %d) = %v, %t", at, l, ok)
		}
	}
	if l, ok := impl.NextsOf(p, 2); len(l) != 0 || !ok {
		t.Errorf("NextsOf of an exit = %v, %t", l, ok)
	}
}

// Promise 19: nil and empty programs are the same, and not valid.
func TestEmptyPrograms(t *testing.T) {
	behind := []impl.Step{{Kind: impl.StExit}}
	for _, p := range [][]impl.Step{nil, {}, behind[:0]} {
		checkProgram(t, p)
		if b, ok := impl.ProgramBytes(p); b != "" || ok {
			t.Errorf("ProgramBytes = %q, %t", b, ok)
		}
	}
}

// What is behind the length of a program neither completes it nor spoils it.
func TestStepsBehindTheLength(t *testing.T) {
	all := []impl.Step{{Kind: impl.StJump, To: 1}, {Kind: impl.StExit}, {Kind: impl.StExit}, {Kind: 77}}
	for size, want := range []bool{false, false, false, true, false} {
		if ok := impl.GoodProgram(all[:size]); ok != want {
			t.Errorf("GoodProgram of %d steps = %t", size, ok)
		}
		checkProgram(t, all[:size])
	}
}

// callAll calls every function of the chapter that takes a program.
func callAll(p []impl.Step) {
	impl.GoodProgram(p)
	impl.ProgramBytes(p)
	impl.SlotsOf(p)
	for at := -1; at <= len(p); at++ {
		impl.NextsOf(p, at)
	}
}

// Promise 19: no argument is changed, up to the capacity of its memory.
func TestProgramsAreNotChanged(t *testing.T) {
	g := lcg(4)
	for i := range 2000 {
		p := append(someProgram(&g), impl.Step{Kind: 99, To: -1}, impl.Step{Kind: impl.StExit})
		if i%3 == 0 {
			p[g.below(len(p))].Imm = oddNumbers[g.below(len(oddNumbers))]
		}
		before := slices.Clone(p)
		callAll(p[:len(p)-2])
		callAll(p)
		if !slices.Equal(p, before) {
			t.Fatalf("%v became %v", before, p)
		}
	}
}

// Promise 19: results share no memory with the argument or with one another.
func TestResultsAreNewMemory(t *testing.T) {
	g := lcg(5)
	for range 300 {
		p := someProgram(&g)
		before := slices.Clone(p)
		s, _ := impl.ProgramBytes(p)
		checkNew(t, func() []impl.Step { l, _, _ := impl.ReadProgram(s); return l }, impl.Step{Kind: 99})
		checkNew(t, func() []int { l, _ := impl.SlotsOf(p); return l }, -7)
		for at := range p {
			checkNew(t, func() []int { l, _ := impl.NextsOf(p, at); return l }, -7)
		}
		if !slices.Equal(p, before) {
			t.Fatalf("a result of %v shares its memory", before)
		}
	}
}

// checkNew overwrites one result up to its capacity and looks at the others.
func checkNew[T comparable](t *testing.T, call func() []T, mark T) {
	t.Helper()
	first := call()
	want := slices.Clone(first)
	second := call()
	for i := range first[:cap(first)] {
		first[:cap(first)][i] = mark
	}
	if !slices.Equal(second, want) || !slices.Equal(call(), want) {
		t.Fatalf("two results share memory: %v became %v", want, second)
	}
}

// Promise 19: the functions answer for every step, also in programs.
func TestProgramsOfArbitrarySteps(t *testing.T) {
	g := lcg(6)
	for range 20000 {
		p := someProgram(&g)
		for range g.below(4) {
			f := fieldsOfStep(p[g.below(len(p))])
			f[g.below(5)] = oddNumbers[g.below(len(oddNumbers))]
			p[g.below(len(p))] = stepOfFields(oddNumbers[g.below(len(oddNumbers))], f)
		}
		checkProgram(t, p)
	}
}
