package tests

import (
	"slices"
	"strings"
	"testing"

	"loop.example/g00359/impl"
)

// CmdRead of very many lines, most of them wrong, held against the plain
// reader; and promise 6 of whatever is read.

// checkReadBack wants a line that is read as a command to have that command's
// tokens, and the command to come back from its own line.
func checkReadBack(t *testing.T, line []byte) int {
	t.Helper()
	code := checkPlain(t, line)
	if code != impl.LnWell {
		return code
	}
	c, _, _ := impl.CmdRead(line)
	b, ok := impl.CmdText(c)
	if !ok || !slices.Equal(splitLine(string(b)), splitLine(string(line))) {
		t.Errorf("%q is read as %v, whose line is %q, %v", line, c, b, ok)
	}
	return code
}

// wantEach wants each code to have been met, so that the lines are not all of
// one sort.
func wantEach(t *testing.T, met map[int]int, codes ...int) {
	t.Helper()
	for _, code := range codes {
		if met[code] < 100 {
			t.Errorf("code %d was met %d times alone", code, met[code])
		}
	}
}

func TestKnownLinesWithAByteTurned(t *testing.T) {
	met := map[int]int{}
	for _, x := range knownLines() {
		for at := range len(x.line) {
			for other := range 256 {
				b := []byte(x.line)
				b[at] = byte(other)
				met[checkReadBack(t, b)]++
			}
		}
	}
	wantEach(t, met, impl.LnWell, impl.LnByte, impl.LnForm)
}

func TestKnownLinesWithAByteMoreOrFewer(t *testing.T) {
	met := map[int]int{}
	for _, x := range knownLines() {
		for at := range len(x.line) + 1 {
			for _, more := range []byte(" \"\\()SRLaz019?\x00\n\x7f\xff") {
				met[checkReadBack(t, slices.Insert([]byte(x.line), at, more))]++
			}
			met[checkReadBack(t, []byte(x.line[:at]))]++
			met[checkReadBack(t, []byte(x.line[at:]))]++
			if at < len(x.line) {
				met[checkReadBack(t, slices.Delete([]byte(x.line), at, at+1))]++
			}
		}
	}
	wantEach(t, met, impl.LnWell, impl.LnByte, impl.LnForm)
}

// drawnLine has pieces that often stand in a row of plainForms.
func drawnLine(draw func(int) int) string {
	forms := plainForms()
	row := forms[draw(len(forms))]
	wrong := strings.Fields(`? 01 1000001 abcdefg aB A1 (AS) (S () "x "\x" FOO list ) \ ( "`)
	right := map[string][]string{
		"n": {"a", "inbox", "zzzzzz", "q"}, "u": {"1", "12", "1000000", "0"}, "z": {"0", "1", "77"},
		"F": {"()", "(S)", "(SAFDR)", "(DR)"}, "T": {`""`, `"x"`, `"a \" b\\"`, `"` + strings.Repeat("~", 30) + `"`},
	}
	var s strings.Builder
	for _, want := range row {
		s.WriteString(strings.Repeat(" ", max(0, draw(12)-8)))
		token := want
		if l := right[want]; l != nil {
			token = l[draw(len(l))]
		}
		switch draw(40) {
		case 0:
			token = wrong[draw(len(wrong))]
		case 1:
			token = oneOfEach()[draw(len(oneOfEach()))]
		case 2:
			token = ""
		case 3:
			token += token
		}
		s.WriteString(token)
		if draw(20) > 0 {
			s.WriteString(" ")
		}
	}
	if draw(8) == 0 {
		s.WriteString(strings.Repeat(" ", draw(130)))
	}
	return s.String()
}

func TestDrawnLines(t *testing.T) {
	draw := draws(23)
	met := map[int]int{}
	for range 60000 {
		met[checkReadBack(t, []byte(drawnLine(draw)))]++
	}
	wantEach(t, met, impl.LnWell, impl.LnLong, impl.LnByte, impl.LnForm)
}

// Every line of up to five bytes, of some that tokens are made of.
func TestEveryShortLine(t *testing.T) {
	for size := range 6 {
		everyList([]byte(` ("S)\0a`), size, func(b []byte) { checkReadBack(t, b) })
	}
}

func TestAnyBytesAsALine(t *testing.T) {
	draw := draws(29)
	for range 20000 {
		b := make([]byte, draw(125))
		for i := range b {
			b[i] = byte(draw(256))
		}
		checkReadBack(t, b)
	}
}
