package tests

import (
	"bytes"
	"slices"
	"strings"
	"testing"

	"loop.example/g00359/impl"
)

// CmdText, and promise 6 of commands: they come back from their lines.

func TestLineConstants(t *testing.T) {
	got := []int{impl.MaxLine, impl.LnWell, impl.LnLong, impl.LnByte, impl.LnForm}
	if !slices.Equal(got, []int{120, 0, 1, 2, 3}) {
		t.Fatal(got)
	}
}

type lineCase struct {
	c    impl.Cmd
	line string
}

// knownLines are commands of each kind, at their limits, and their lines.
func knownLines() []lineCase {
	a, z := []byte("a"), []byte("zyxwvu")
	return []lineCase{
		{impl.Cmd{Kind: impl.CmCreate, Box: a}, `CREATE a`},
		{impl.Cmd{Kind: impl.CmCreate, Box: z}, `CREATE zyxwvu`},
		{impl.Cmd{Kind: impl.CmDelete, Box: a}, `DELETE a`},
		{impl.Cmd{Kind: impl.CmDelete, Box: z}, `DELETE zyxwvu`},
		{impl.Cmd{Kind: impl.CmExpunge, Box: a}, `EXPUNGE a`},
		{impl.Cmd{Kind: impl.CmExpunge, Box: z}, `EXPUNGE zyxwvu`},
		{impl.Cmd{Kind: impl.CmStatus, Box: a}, `STATUS a`},
		{impl.Cmd{Kind: impl.CmStatus, Box: z}, `STATUS zyxwvu`},
		{impl.Cmd{Kind: impl.CmAppend, Box: a}, `APPEND a () ""`},
		{impl.Cmd{Kind: impl.CmAppend, Box: z, Flags: 31, Text: []byte("hello there")}, `APPEND zyxwvu (SAFDR) "hello there"`},
		{impl.Cmd{Kind: impl.CmAppend, Box: a, Flags: 1, Text: []byte(" ")}, `APPEND a (S) " "`},
		{impl.Cmd{Kind: impl.CmAppend, Box: a, Flags: 2, Text: []byte("~")}, `APPEND a (A) "~"`},
		{impl.Cmd{Kind: impl.CmAppend, Box: a, Flags: 4, Text: []byte{34}}, `APPEND a (F) "\""`},
		{impl.Cmd{Kind: impl.CmAppend, Box: a, Flags: 8, Text: []byte{92}}, `APPEND a (D) "\\"`},
		{impl.Cmd{Kind: impl.CmAppend, Box: a, Flags: 16, Text: []byte{92, 34}}, `APPEND a (R) "\\\""`},
		{impl.Cmd{Kind: impl.CmAppend, Box: a, Flags: 9, Text: []byte{34, 92}}, `APPEND a (SD) "\"\\"`},
		{impl.Cmd{Kind: impl.CmAppend, Box: a, Text: []byte(`(S) LIST`)}, `APPEND a () "(S) LIST"`},
		{impl.Cmd{Kind: impl.CmStore, Box: a, Uid: 1}, `STORE a 1 IS ()`},
		{impl.Cmd{Kind: impl.CmStore, Box: a, Uid: 1, Since: 1}, `STORE a 1 IS () SINCE 1`},
		{impl.Cmd{Kind: impl.CmStore, Box: z, Uid: 1000000, Mode: 1, Flags: 31}, `STORE zyxwvu 1000000 WITH (SAFDR)`},
		{impl.Cmd{Kind: impl.CmStore, Box: z, Uid: 999999, Mode: 2, Flags: 20}, `STORE zyxwvu 999999 WITHOUT (FR)`},
		{impl.Cmd{Kind: impl.CmStore, Box: z, Uid: 10, Mode: 2, Flags: 31, Since: 1000000}, `STORE zyxwvu 10 WITHOUT (SAFDR) SINCE 1000000`},
		{impl.Cmd{Kind: impl.CmFetch, Box: a, Uid: 1}, `FETCH a 1`},
		{impl.Cmd{Kind: impl.CmFetch, Box: z, Uid: 1000000}, `FETCH zyxwvu 1000000`},
		{impl.Cmd{Kind: impl.CmCopy, Box: a, To: z, Uid: 1}, `COPY a 1 zyxwvu`},
		{impl.Cmd{Kind: impl.CmCopy, Box: z, To: a, Uid: 1000000, Mode: 1}, `COPY zyxwvu 1000000 a AWAY`},
		{impl.Cmd{Kind: impl.CmCopy, Box: a, To: a, Uid: 7, Mode: 1}, `COPY a 7 a AWAY`},
		{impl.Cmd{Kind: impl.CmChanges, Box: a}, `CHANGES a 0`},
		{impl.Cmd{Kind: impl.CmChanges, Box: z, Since: 1}, `CHANGES zyxwvu 1`},
		{impl.Cmd{Kind: impl.CmChanges, Box: z, Since: 1000000}, `CHANGES zyxwvu 1000000`},
		{impl.Cmd{Kind: impl.CmList}, `LIST`},
	}
}

func checkText(t *testing.T, c impl.Cmd, want string) {
	t.Helper()
	b, ok := impl.CmdText(c)
	if !ok || string(b) != want {
		t.Errorf("CmdText(%v) answers %q, %v, want %q", c, b, ok, want)
	}
	if len(b) > impl.MaxLine {
		t.Errorf("CmdText(%v) has %d bytes", c, len(b))
	}
	checkWell(t, string(b), c)
}

func checkNoText(t *testing.T, c impl.Cmd) {
	t.Helper()
	if b, ok := impl.CmdText(c); ok || len(b) != 0 {
		t.Errorf("CmdText(%v) answers %q, %v", c, b, ok)
	}
}

func TestCmdTextOfKnownCommands(t *testing.T) {
	kinds := map[int]bool{}
	for _, x := range knownLines() {
		checkText(t, x.c, x.line)
		kinds[x.c.Kind] = true
	}
	if len(kinds) != 10 {
		t.Fatal(kinds)
	}
}

func TestEverySetOfFlags(t *testing.T) {
	want := []string{
		"()", "(S)", "(A)", "(SA)", "(F)", "(SF)", "(AF)", "(SAF)",
		"(D)", "(SD)", "(AD)", "(SAD)", "(FD)", "(SFD)", "(AFD)", "(SAFD)",
		"(R)", "(SR)", "(AR)", "(SAR)", "(FR)", "(SFR)", "(AFR)", "(SAFR)",
		"(DR)", "(SDR)", "(ADR)", "(SADR)", "(FDR)", "(SFDR)", "(AFDR)", "(SAFDR)",
	}
	box := []byte("in")
	for flags, s := range want {
		checkText(t, impl.Cmd{Kind: impl.CmAppend, Box: box, Flags: flags}, `APPEND in `+s+` ""`)
		checkText(t, impl.Cmd{Kind: impl.CmStore, Box: box, Uid: 3, Mode: 1, Flags: flags}, `STORE in 3 WITH `+s)
		checkText(t, impl.Cmd{Kind: impl.CmStore, Box: box, Uid: 3, Flags: flags, Since: 9}, `STORE in 3 IS `+s+` SINCE 9`)
	}
}

func TestTextsComeBackFromTheirLines(t *testing.T) {
	texts := []string{
		strings.Repeat(`"`, 30), strings.Repeat(`\`, 30), strings.Repeat(`\"`, 15), strings.Repeat(`"\`, 15),
		strings.Repeat(" ", 30), strings.Repeat("~", 29) + `"`, strings.Repeat("~", 29) + `\`, `\` + strings.Repeat("x", 29),
		`\n`, `""`, `" "`, `\\`, `)`, `(`, `a"b\c`,
	}
	for x := 32; x <= 126; x++ {
		texts = append(texts, string(rune(x)), "a"+string(rune(x))+"b", strings.Repeat(string(rune(x)), 30))
	}
	for _, s := range texts {
		c := impl.Cmd{Kind: impl.CmAppend, Box: []byte("in"), Text: []byte(s)}
		checkText(t, c, plainCmdText(c))
	}
}

// The longest lines there are: names, numbers, flags and texts at their limits.
func TestTheLongestLines(t *testing.T) {
	name := []byte("abcdef")
	for _, x := range []struct {
		c    impl.Cmd
		size int
	}{
		{impl.Cmd{Kind: impl.CmAppend, Box: name, Flags: 31, Text: bytes.Repeat([]byte{92}, 30)}, 84},
		{impl.Cmd{Kind: impl.CmAppend, Box: name, Flags: 31, Text: bytes.Repeat([]byte{34}, 30)}, 84},
		{impl.Cmd{Kind: impl.CmStore, Box: name, Uid: 1000000, Mode: 2, Flags: 31, Since: 1000000}, 50},
		{impl.Cmd{Kind: impl.CmCopy, Box: name, To: name, Uid: 1000000, Mode: 1}, 31},
	} {
		b, ok := impl.CmdText(x.c)
		if !ok || len(b) != x.size {
			t.Errorf("CmdText(%v) answers %q, %v", x.c, b, ok)
		}
		checkWell(t, string(b), x.c)
	}
}

func TestCmdTextRefusesWhatIsNotCmdOk(t *testing.T) {
	box := []byte("in")
	for _, c := range []impl.Cmd{
		{},
		{Kind: -1, Box: box},
		{Kind: 10, Box: box},
		{Kind: 10},
		{Kind: impl.CmCreate, Box: []byte("abcdefg")},
		{Kind: impl.CmCreate, Box: []byte("A")},
		{Kind: impl.CmCreate, Box: box, Text: []byte("x")},
		{Kind: impl.CmAppend, Box: box, Flags: 32},
		{Kind: impl.CmAppend, Box: box, Flags: -1},
		{Kind: impl.CmAppend, Box: box, Text: []byte{31}},
		{Kind: impl.CmAppend, Box: box, Text: []byte{127}},
		{Kind: impl.CmAppend, Box: box, Text: make([]byte, 31)},
		{Kind: impl.CmAppend, Box: box, Text: bytes.Repeat([]byte{97}, 31)},
		{Kind: impl.CmStore, Box: box},
		{Kind: impl.CmStore, Box: box, Uid: 1000001},
		{Kind: impl.CmStore, Box: box, Uid: 1, Mode: 3},
		{Kind: impl.CmStore, Box: box, Uid: 1, Mode: -1},
		{Kind: impl.CmStore, Box: box, Uid: 1, Since: -1},
		{Kind: impl.CmStore, Box: box, Uid: 1, Since: 1000001},
		{Kind: impl.CmFetch, Box: box},
		{Kind: impl.CmFetch, Box: box, Uid: 1, Flags: 1},
		{Kind: impl.CmCopy, Box: box, Uid: 1},
		{Kind: impl.CmCopy, Box: box, To: box, Uid: 1, Mode: 2},
		{Kind: impl.CmChanges, Box: box, Since: 1000001},
		{Kind: impl.CmList, Box: box},
	} {
		checkNoText(t, c)
	}
}

// Every kind, with every field at its edges, and each two.
func TestCmdTextAtTheEdges(t *testing.T) {
	good, bad := 0, 0
	check := func(c impl.Cmd) {
		if plainCmdOk(c) {
			good++
			checkText(t, c, plainCmdText(c))
		} else {
			bad++
			checkNoText(t, c)
		}
	}
	for _, c := range goodCmds() {
		for _, x := range variants(c) {
			check(x)
			for _, y := range variants(x) {
				check(y)
			}
		}
	}
	if good < 5000 || bad < 5000 {
		t.Fatal(good, bad)
	}
}

func TestDrawnCommandsComeBack(t *testing.T) {
	draw := draws(11)
	for range 300 {
		a := drawnAccount(draw)
		for range 30 {
			c := drawnCmd(draw, a)
			checkText(t, c, plainCmdText(c))
		}
	}
}

// No two commands have one line.
func TestCommandsThatDifferHaveLinesThatDiffer(t *testing.T) {
	lines := map[string]impl.Cmd{}
	for _, c := range goodCmds() {
		for _, x := range variants(c) {
			b, ok := impl.CmdText(x)
			if !ok {
				continue
			}
			if other, there := lines[string(b)]; there && !sameCmd(other, x) {
				t.Errorf("%v and %v have one line: %q", other, x, b)
			}
			lines[string(b)] = x
		}
	}
	if len(lines) < 100 {
		t.Fatal(len(lines))
	}
}

// Promise 6: blanks around a line change nothing but places.
func TestBlanksAroundALine(t *testing.T) {
	lines := []string{
		"", "LIST LIST", "CREATE", "CREATE A", "FETCH a 0", "FETCH a 01", `APPEND a (DS) ""`, `APPEND a () "x`,
		"STORE a 1 AS ()", "?", "a", "COPY a 1", "COPY a 1 b AWAY 5", `APPEND a () "` + "\x7f" + `"`, "STORE a 1 IS () SINCE",
	}
	for _, x := range knownLines() {
		lines = append(lines, x.line)
	}
	for _, line := range lines {
		c, code, at := impl.CmdRead([]byte(line))
		for _, ahead := range []int{0, 1, 2, 7, 20} {
			for _, behind := range []int{0, 1, 3, 8} {
				place := at
				if code != impl.LnWell {
					place += ahead
				}
				// A token that lacks lacks at the whole line's end.
				if code == impl.LnForm && at == len(line) {
					place += behind
				}
				checkLine(t, strings.Repeat(" ", ahead)+line+strings.Repeat(" ", behind), c, code, place)
			}
		}
	}
}
