package tests

import (
	"bytes"
	"slices"
	"strings"
	"testing"

	"loop.example/g00359/impl"
)

// RecordBytes and RecordRead, and promise 6 of records: they come back from
// their bytes, which are at most MaxRecord, and whatever bytes are read as one
// are just its bytes.

// checkRecordBytes wants a record that is RecordOk to have these bytes, and to
// come back from them.
func checkRecordBytes(t *testing.T, r impl.Record, want []byte) {
	t.Helper()
	b, ok := impl.RecordBytes(r)
	if !ok || !bytes.Equal(b, want) {
		t.Errorf("RecordBytes(%v) answers %v, %v, want %v", r, b, ok, want)
	}
	if len(b) > impl.MaxRecord {
		t.Errorf("RecordBytes(%v) has %d bytes", r, len(b))
	}
	back, ok := impl.RecordRead(want)
	if !ok || !sameRecord(back, r) {
		t.Errorf("RecordRead(%v) answers %v, %v, want %v", want, back, ok, r)
	}
}

func checkNoRecordBytes(t *testing.T, why string, r impl.Record) {
	t.Helper()
	if b, ok := impl.RecordBytes(r); ok || len(b) != 0 {
		t.Errorf("%s: RecordBytes(%v) answers %v, %v", why, r, b, ok)
	}
}

func checkNoRecord(t *testing.T, why string, b []byte) {
	t.Helper()
	if r, ok := impl.RecordRead(b); ok || !zeroRecord(r) {
		t.Errorf("%s: RecordRead(%v) answers %v, %v", why, b, r, ok)
	}
}

// checkJustItsRecord wants bytes to be read as the plain reader reads them, and
// to be just the bytes of what they are read as; it answers whether they are.
func checkJustItsRecord(t *testing.T, b []byte) bool {
	t.Helper()
	r, ok := impl.RecordRead(b)
	want, wantOk := plainRecordRead(b)
	if ok != wantOk || !sameRecord(r, want) {
		t.Errorf("RecordRead(%v) answers %v, %v, want %v, %v", b, r, ok, want, wantOk)
	}
	if !ok {
		return false
	}
	again, ok := impl.RecordBytes(r)
	if !ok || !bytes.Equal(again, b) {
		t.Errorf("RecordRead(%v) answers %v, whose bytes are %v", b, r, again)
	}
	return true
}

func lineBytes(head []byte, line string) []byte {
	return append(slices.Clone(head), line...)
}

func TestKnownRecordBytes(t *testing.T) {
	checkRecordBytes(t, cmdRecord(0, 3, createCmd("a")), []byte{0, 0, 3, 'C', 'R', 'E', 'A', 'T', 'E', ' ', 'a'})
	checkRecordBytes(t, cmdRecord(2, 128, impl.Cmd{Kind: impl.CmList}), []byte{0, 2, 128, 1, 'L', 'I', 'S', 'T'})
	checkRecordBytes(t, bareRecord(impl.RcFreeze, 1, 0), []byte{1, 1, 0})
	checkRecordBytes(t, bareRecord(impl.RcThaw, 0, 127), []byte{2, 0, 127})
	checkRecordBytes(t, installRecord(0, 2, impl.Account{}), []byte{3, 0, 2, 0, 0, 0})
	checkRecordBytes(t, installRecord(2, 1000000, impl.Account{Valid: 300, Seen: []int{7}}), []byte{3, 2, 192, 132, 61, 172, 2, 0, 1, 7})
	checkRecordBytes(t, bareRecord(impl.RcGrant, 2, 1000000), []byte{4, 2, 192, 132, 61})
	checkRecordBytes(t, bareRecord(impl.RcDrop, 0, 300), []byte{5, 0, 172, 2})
	checkRecordBytes(t, moveRecord(1, 2), []byte{6, 1, 2})
	checkRecordBytes(t, cutRecord(0), []byte{7, 0, 0})
	checkRecordBytes(t, abortRecord(2), []byte{8, 2, 0})
}

func TestRecordsComeBackFromTheirBytes(t *testing.T) {
	for _, r := range goodRecords() {
		checkRecordBytes(t, r, plainRecordBytes(r))
	}
	draw := draws(41)
	for range 1000 {
		a := drawnAccount(draw)
		for range 5 {
			r := cmdRecord(draw(3), 1+draw(impl.MaxSeq), drawnCmd(draw, a))
			checkRecordBytes(t, r, plainRecordBytes(r))
		}
		r := installRecord(draw(3), draw(impl.MaxSeq+1), a)
		checkRecordBytes(t, r, plainRecordBytes(r))
	}
}

// The longest records there are; and a log takes them.
func TestTheLongestRecords(t *testing.T) {
	text := bytes.Repeat([]byte{92}, impl.MaxText)
	long := impl.Cmd{Kind: impl.CmAppend, Box: []byte("abcdef"), Flags: impl.MaxFlags, Text: text}
	for _, x := range []struct {
		r    impl.Record
		size int
	}{
		{installRecord(2, impl.MaxSeq, longAccount()), 5 + len(plainAccountBytes(longAccount()))},
		{cmdRecord(2, impl.MaxSeq, long), 5 + 84},
		{bareRecord(impl.RcDrop, 2, impl.MaxSeq), 5},
	} {
		b, ok := impl.RecordBytes(x.r)
		if !ok || len(b) != x.size || len(b) > impl.MaxRecord {
			t.Errorf("a record of kind %d has %d bytes, %v, want %d", x.r.Kind, len(b), ok, x.size)
		}
		if _, ok := impl.Write(impl.Log{}, b); !ok {
			t.Errorf("a record of kind %d is not taken by a log", x.r.Kind)
		}
		checkRecordBytes(t, x.r, b)
	}
}

func TestRecordsThatMayNotBe(t *testing.T) {
	for why, r := range badRecords() {
		checkNoRecordBytes(t, why, r)
		checkNoRecord(t, why, plainRecordBytes(r))
	}
	for why, r := range map[string]impl.Record{
		"the zero value":    {},
		"Kind -1":           {Kind: -1},
		"User -1":           bareRecord(impl.RcFreeze, -1, 1),
		"N -1":              bareRecord(impl.RcFreeze, 0, -1),
		"N above MaxNum":    bareRecord(impl.RcFreeze, 0, impl.MaxNum+1),
		"no command":        cmdRecord(0, 1, impl.Cmd{}),
		"a bad command":     cmdRecord(0, 1, createCmd("A")),
		"a command more":    {Kind: impl.RcFreeze, N: 1, Cmd: createCmd("a")},
		"a line more":       {Kind: impl.RcInstall, N: 1, Cmd: createCmd("a")},
		"an account more":   {Kind: impl.RcCmd, N: 1, Cmd: createCmd("a"), Acc: smallAccount()},
		"a Seen more":       {Kind: impl.RcDrop, N: 1, Acc: impl.Account{Seen: []int{1}}},
		"a bad account":     installRecord(0, 1, impl.Account{Valid: -1}),
		"a Since more":      {Kind: impl.RcMove, N: 1, Cmd: impl.Cmd{Since: 1}},
		"an account at cut": {Kind: impl.RcCut, Acc: impl.Account{Valid: 1}},
	} {
		checkNoRecordBytes(t, why, r)
	}
}

// What stands behind the three numbers where nothing may, or something else.
func TestRecordBytesWithOtherThingsBehind(t *testing.T) {
	account := plainAccountBytes(smallAccount())
	for kind := range 10 {
		head := []byte{byte(kind), 0, 1}
		if kind != impl.RcCmd {
			checkNoRecord(t, "a line", lineBytes(head, "CREATE a"))
			checkNoRecord(t, "a line", lineBytes(head, "LIST"))
			checkNoRecord(t, "a blank", lineBytes(head, " "))
		}
		if kind != impl.RcInstall {
			checkNoRecord(t, "an account", slices.Concat(head, account))
			checkNoRecord(t, "an empty account", slices.Concat(head, []byte{0, 0, 0}))
		}
		if kind == impl.RcCmd || kind == impl.RcInstall {
			checkNoRecord(t, "nothing", head)
		}
	}
	checkNoRecord(t, "N 0", lineBytes([]byte{0, 0, 0}, "CREATE a"))
	checkNoRecord(t, "User 3", lineBytes([]byte{0, 3, 1}, "CREATE a"))
	checkNoRecord(t, "N above MaxSeq", lineBytes([]byte{0, 0, 193, 132, 61}, "CREATE a"))
	checkRecordBytes(t, cmdRecord(0, impl.MaxSeq, createCmd("a")), lineBytes([]byte{0, 0, 192, 132, 61}, "CREATE a"))
}

// A line that is read, but is not the one that its command is written as.
func TestRecordBytesWithAnotherWriting(t *testing.T) {
	head := []byte{0, 1, 9}
	for _, line := range []string{
		"CREATE  a", " CREATE a", "CREATE a ", "CREATE   a  ", "LIST ", " LIST", "FETCH a  1", "COPY a 1 b  AWAY",
		`APPEND a () ""  `, `APPEND a  () ""`, `APPEND a() ""`, `APPEND a ()""`, `APPEND a()""`, "STORE a 1 IS()",
		"STORE a 1 IS  () SINCE 1", "STORE a 1 IS ()SINCE 1", "CHANGES a  0",
	} {
		if _, code, _ := impl.CmdRead([]byte(line)); code != impl.LnWell {
			t.Errorf("%q is not read", line)
		}
		checkNoRecord(t, line, lineBytes(head, line))
	}
	for _, x := range knownLines() {
		checkRecordBytes(t, cmdRecord(1, 9, x.c), lineBytes(head, x.line))
		for at := range len(x.line) + 1 {
			checkJustItsRecord(t, lineBytes(head, x.line[:at]+" "+x.line[at:]))
		}
		checkNoRecord(t, "a blank ahead", lineBytes(head, " "+x.line))
		checkNoRecord(t, "a blank behind", lineBytes(head, x.line+" "))
		checkNoRecord(t, "many blanks", lineBytes(head, x.line+strings.Repeat(" ", 200)))
		checkNoRecord(t, "an end of line", lineBytes(head, x.line+"\n"))
	}
	for _, line := range []string{
		"", " ", "list", "CREATE", "CREATE A", "FETCH a 0", "FETCH a 01", "STORE a 1 IS () SINCE 0", "CHANGES a 00",
		`APPEND a (AS) ""`, `APPEND a () "\a"`, "LIST LIST", "?", "CREATE abcdefg",
	} {
		checkNoRecord(t, line, lineBytes(head, line))
	}
}

func TestRecordBytesCutOff(t *testing.T) {
	cut := 0
	for _, r := range goodRecords() {
		b := plainRecordBytes(r)
		for n := range len(b) {
			if !checkJustItsRecord(t, b[:n:n]) {
				continue
			}
			// What is left of a line may be one itself; of nothing else.
			cut++
			if r.Kind != impl.RcCmd || n < 3 {
				t.Errorf("%v, cut off at %d, is read", b, n)
			}
		}
	}
	if cut == 0 {
		t.Fatal("no line was read that was cut off")
	}
	for n := range 3 {
		checkNoRecord(t, "cut off", []byte{8, 2, 0}[:n])
	}
	checkNoRecord(t, "no bytes", nil)
	checkNoRecord(t, "no bytes", []byte{})
}

func TestRecordBytesWithAByteMore(t *testing.T) {
	for _, r := range goodRecords() {
		b := plainRecordBytes(r)
		for x := range 256 {
			more := append(b[:len(b):len(b)], byte(x))
			if checkJustItsRecord(t, more) && r.Kind != impl.RcCmd {
				t.Errorf("%v is read with a byte behind", more)
			}
		}
		checkJustItsRecord(t, append(b[:len(b):len(b)], b...))
		checkJustItsRecord(t, append([]byte{0}, b...))
		checkJustItsRecord(t, append([]byte{128}, b...))
	}
	checkNoRecord(t, "very many bytes", append([]byte{1, 0, 1}, make([]byte, 1000000)...))
	checkNoRecord(t, "very many bytes", append([]byte{3, 0, 1}, make([]byte, 1000000)...))
	checkNoRecord(t, "very many bytes", append([]byte{0, 0, 1}, bytes.Repeat([]byte(" "), 1000000)...))
}

func TestRecordBytesWithAByteTurned(t *testing.T) {
	read := map[int]int{}
	for _, r := range goodRecords() {
		// The users' records are alike but for one byte.
		if r.User != 1 || r.Kind == impl.RcInstall && r.N != 300 {
			continue
		}
		b := plainRecordBytes(r)
		others := ascendingBytes(256)
		if len(b) > 200 {
			others = []byte{0, 127, 255}
		}
		for at := range b {
			for _, other := range others {
				turned := slices.Clone(b)
				turned[at] = other
				if other != b[at] && checkJustItsRecord(t, turned) {
					read[r.Kind]++
				}
			}
		}
	}
	for kind := range 9 {
		if read[kind] == 0 {
			t.Errorf("nothing was read of kind %d with a byte turned", kind)
		}
	}
}

// A number that takes a byte more than it needs makes no record, wherever it
// stands.
func TestRecordBytesWithALongNumber(t *testing.T) {
	for _, r := range goodRecords() {
		count := plainPut{long: -1}
		count.record(r)
		if count.put < 3 {
			t.Fatal(r)
		}
		for i := range count.put {
			p := plainPut{long: i}
			p.record(r)
			checkNoRecord(t, "a long number", p.out)
		}
	}
	checkNoRecord(t, "a number above MaxNum", []byte{1, 0, 128, 128, 128, 128, 8})
	checkNoRecord(t, "a number of six bytes", []byte{1, 0, 129, 128, 128, 128, 128, 0})
	checkNoRecord(t, "a number without its end", []byte{1, 0, 129})
}

func TestEveryShortListAsARecord(t *testing.T) {
	read := 0
	for size := range 7 {
		everyList([]byte{0, 1, 2, 3, 6, 8, 128}, size, func(b []byte) {
			if checkJustItsRecord(t, b) {
				read++
			}
		})
	}
	if read < 100 {
		t.Fatal(read)
	}
}

func TestAnyBytesAsARecord(t *testing.T) {
	draw := draws(43)
	for range 20000 {
		b := make([]byte, draw(40))
		for i := range b {
			b[i] = byte(draw([]int{4, 10, 128, 256}[draw(4)]))
		}
		checkJustItsRecord(t, b)
	}
}

// No two records have the same bytes.
func TestRecordsThatDifferHaveBytesThatDiffer(t *testing.T) {
	seen := map[string]impl.Record{}
	for _, r := range goodRecords() {
		b, _ := impl.RecordBytes(r)
		if other, there := seen[string(b)]; there && !sameRecord(other, r) {
			t.Errorf("%v and %v have the same bytes", other, r)
		}
		seen[string(b)] = r
	}
}
