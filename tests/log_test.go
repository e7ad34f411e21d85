package tests

import (
	"bytes"
	"math"
	"strconv"
	"testing"

	"loop.example/g00359/impl"
)

// Promise 2: a record that was written and synced stands behind all that were
// whole; one that a crash cut off is there whole or not at all, behind all
// ahead of it; what is mended twice is mended once.

func sameLog(a impl.Log, b impl.Log) bool {
	return bytes.Equal(a.Safe, b.Safe) && bytes.Equal(a.Tail, b.Tail)
}

func emptyLog(g impl.Log) bool {
	return len(g.Safe) == 0 && len(g.Tail) == 0
}

func sameRecords(a [][]byte, b [][]byte) bool {
	if len(a) != len(b) {
		return false
	}
	for i := range a {
		if !bytes.Equal(a[i], b[i]) {
			return false
		}
	}
	return true
}

// plainRecord puts a record's bytes behind b without the program's help; its
// size is below 16384.
func plainRecord(b []byte, rec []byte) []byte {
	if len(rec) < 128 {
		b = append(b, byte(len(rec)))
	} else {
		b = append(b, byte(len(rec)%128+128), byte(len(rec)/128))
	}
	return append(b, rec...)
}

func plainRecords(l [][]byte) []byte {
	var b []byte
	for _, rec := range l {
		b = plainRecord(b, rec)
	}
	return b
}

func plainScan(safe []byte) ([][]byte, int) {
	var l [][]byte
	at := 0
	for {
		size, from := plainGetNum(safe, at)
		if from < 0 || size > 6000 || from+size > len(safe) {
			return l, at
		}
		l = append(l, safe[from:from+size])
		at = from + size
	}
}

// checkRead wants Scan and Mend of this log to be what a plain reader of Safe
// finds, and a second Mend to change nothing.
func checkRead(t *testing.T, g impl.Log) {
	t.Helper()
	want, end := plainScan(g.Safe)
	if l, at := impl.Scan(g); !sameRecords(l, want) || at != end {
		t.Fatalf("Scan(%v) = %v, %d, want %v, %d", brief(g.Safe), l, at, want, end)
	}
	mended := impl.Mend(g)
	if !sameLog(mended, impl.Log{Safe: g.Safe[:end]}) {
		t.Fatalf("Mend(%v) = %v, want Safe up to %d and no Tail", brief(g.Safe), mended, end)
	}
	if again := impl.Mend(mended); !sameLog(again, mended) {
		t.Fatalf("Mend(%v) = %v, though it was mended", brief(mended.Safe), again)
	}
	if l, at := impl.Scan(mended); !sameRecords(l, want) || at != end {
		t.Fatalf("mended, Scan(%v) = %v, %d, want %v, %d", brief(g.Safe), l, at, want, end)
	}
}

func brief(b []byte) []byte {
	return b[:min(len(b), 40)]
}

func recordSizes() []int {
	return []int{0, 1, 2, 126, 127, 128, 129, 255, 256, impl.MaxRecord - 1, impl.MaxRecord}
}

func TestLogLimits(t *testing.T) {
	if impl.MaxRecord != 6000 || impl.MaxLog != 1000000 {
		t.Fatal(impl.MaxRecord, impl.MaxLog)
	}
}

// logsOf answers logs whose Safe and Tail have together so many bytes.
func logsOf(size int) []impl.Log {
	var l []impl.Log
	for _, safe := range []int{0, 1, size / 2, size - 1, size} {
		b := bytes.Repeat([]byte{5}, size)
		l = append(l, impl.Log{Safe: b[:safe], Tail: b[safe:]})
	}
	return l
}

func TestLogOk(t *testing.T) {
	for _, g := range []impl.Log{{}, {Safe: []byte{}, Tail: []byte{}}, {Safe: []byte{255}}, {Tail: []byte{255}}} {
		if !impl.LogOk(g) {
			t.Errorf("LogOk(%v) is false", g)
		}
	}
	for size, want := range map[int]bool{impl.MaxLog - 1: true, impl.MaxLog: true, impl.MaxLog + 1: false, impl.MaxLog + 2: false} {
		for _, g := range logsOf(size) {
			if impl.LogOk(g) != want {
				t.Errorf("LogOk of %d and %d bytes is not %v", len(g.Safe), len(g.Tail), want)
			}
		}
	}
	each := bytes.Repeat([]byte{5}, impl.MaxLog)
	if impl.LogOk(impl.Log{Safe: each, Tail: each}) {
		t.Error("LogOk of twice MaxLog bytes")
	}
}

func TestTheRoomBehindALogIsNotCounted(t *testing.T) {
	memory := make([]byte, 2*impl.MaxLog)
	if !impl.LogOk(impl.Log{Safe: memory[:1], Tail: memory[:impl.MaxLog-1]}) {
		t.Error("LogOk is false of MaxLog bytes with room behind them")
	}
}

func TestFullLogs(t *testing.T) {
	for _, g := range logsOf(impl.MaxLog) {
		all := impl.Log{Safe: bytes.Repeat([]byte{5}, impl.MaxLog)}
		for _, rec := range [][]byte{nil, {}, {1}, make([]byte, impl.MaxRecord+1)} {
			if got, ok := impl.Write(g, rec); ok || !sameLog(got, g) {
				t.Errorf("Write of %d bytes to %d and %d: %v, %d and %d", len(rec), len(g.Safe), len(g.Tail), ok, len(got.Safe), len(got.Tail))
			}
		}
		if got := impl.Sync(g); !sameLog(got, all) {
			t.Errorf("Sync of %d and %d bytes: %d and %d", len(g.Safe), len(g.Tail), len(got.Safe), len(got.Tail))
		}
		if got := impl.Crash(g, len(g.Tail)); !sameLog(got, all) {
			t.Errorf("Crash of %d and %d bytes: %d and %d", len(g.Safe), len(g.Tail), len(got.Safe), len(got.Tail))
		}
		if got := impl.Crash(g, 0); !sameLog(got, impl.Log{Safe: g.Safe}) {
			t.Errorf("Crash of %d and %d bytes, keeping none: %d and %d", len(g.Safe), len(g.Tail), len(got.Safe), len(got.Tail))
		}
		// Six bytes a record: 5, and five of them.
		whole := len(g.Safe) / 6
		if l, end := impl.Scan(g); len(l) != whole || end != 6*whole {
			t.Errorf("Scan of %d bytes: %d records, %d", len(g.Safe), len(l), end)
		}
		if got := impl.Mend(g); !sameLog(got, impl.Log{Safe: g.Safe[:6*whole]}) {
			t.Errorf("Mend of %d bytes: %d and %d", len(g.Safe), len(got.Safe), len(got.Tail))
		}
	}
}

func TestOverfullLogs(t *testing.T) {
	for _, size := range []int{impl.MaxLog + 1, impl.MaxLog + 6000} {
		for _, g := range logsOf(size) {
			for _, rec := range [][]byte{nil, {1}, make([]byte, impl.MaxRecord), make([]byte, impl.MaxRecord+1)} {
				if got, ok := impl.Write(g, rec); ok || !emptyLog(got) {
					t.Errorf("Write of %d bytes to %d: %v, %d and %d", len(rec), size, ok, len(got.Safe), len(got.Tail))
				}
			}
			if got := impl.Sync(g); !emptyLog(got) {
				t.Errorf("Sync of %d bytes: %d and %d", size, len(got.Safe), len(got.Tail))
			}
			for _, keep := range []int{-1, 0, 1, impl.MaxLog, size} {
				if got := impl.Crash(g, keep); !emptyLog(got) {
					t.Errorf("Crash of %d bytes: %d and %d", size, len(got.Safe), len(got.Tail))
				}
			}
			if l, end := impl.Scan(g); len(l) != 0 || end != 0 {
				t.Errorf("Scan of %d bytes: %d records, %d", size, len(l), end)
			}
			if got := impl.Mend(g); !emptyLog(got) {
				t.Errorf("Mend of %d bytes: %d and %d", size, len(got.Safe), len(got.Tail))
			}
		}
	}
}

func someLogs() []impl.Log {
	return []impl.Log{
		{},
		{Safe: []byte{1, 65}},
		{Tail: []byte{1, 65}},
		{Safe: []byte{1, 65, 0}, Tail: []byte{2, 66, 67}},
		{Safe: []byte{7, 1}, Tail: []byte{128}},
	}
}

func TestWritePutsTheRecordBehindTail(t *testing.T) {
	for _, g := range someLogs() {
		for _, size := range recordSizes() {
			rec := ascendingBytes(size)
			want := impl.Log{Safe: g.Safe, Tail: plainRecord(bytes.Clone(g.Tail), rec)}
			if got, ok := impl.Write(g, rec); !ok || !sameLog(got, want) {
				t.Errorf("Write(%v, %d bytes) = %v and %v, %v", g, size, brief(got.Safe), brief(got.Tail), ok)
			}
		}
	}
}

func TestWriteRefusesLongRecords(t *testing.T) {
	for _, g := range someLogs() {
		for _, size := range []int{impl.MaxRecord + 1, impl.MaxRecord + 2, 16384, impl.MaxLog + 1} {
			if got, ok := impl.Write(g, make([]byte, size)); ok || !sameLog(got, g) {
				t.Errorf("Write(%v, %d bytes) = %v and %v, %v", g, size, brief(got.Safe), brief(got.Tail), ok)
			}
		}
	}
}

func TestWriteFillsTheLogAndNoMore(t *testing.T) {
	for _, size := range recordSizes() {
		rec := ascendingBytes(size)
		need := len(plainRecord(nil, rec))
		for _, g := range logsOf(impl.MaxLog - need) {
			got, ok := impl.Write(g, rec)
			if !ok || !impl.LogOk(got) || !sameLog(got, impl.Log{Safe: g.Safe, Tail: plainRecord(bytes.Clone(g.Tail), rec)}) {
				t.Errorf("a record of %d bytes has no room though it just fits behind %d and %d", size, len(g.Safe), len(g.Tail))
			}
		}
		for _, g := range logsOf(impl.MaxLog - need + 1) {
			if got, ok := impl.Write(g, rec); ok || !sameLog(got, g) {
				t.Errorf("a record of %d bytes was written though it passes MaxLog by one behind %d and %d", size, len(g.Safe), len(g.Tail))
			}
		}
	}
}

func TestSync(t *testing.T) {
	for _, g := range someLogs() {
		want := impl.Log{Safe: append(bytes.Clone(g.Safe), g.Tail...)}
		got := impl.Sync(g)
		if !sameLog(got, want) {
			t.Errorf("Sync(%v) = %v, want %v", g, got, want)
		}
		if again := impl.Sync(got); !sameLog(again, want) {
			t.Errorf("Sync(%v) = %v, though it was synced", got, again)
		}
	}
}

func TestCrashKeepsTheFirstBytesOfTail(t *testing.T) {
	for _, g := range append(someLogs(), impl.Log{Safe: ascendingBytes(20), Tail: ascendingBytes(200)}) {
		keeps := []int{math.MinInt, -1000, -len(g.Tail), -1, len(g.Tail) + 1, len(g.Tail) + 1000, impl.MaxLog + 1, math.MaxInt}
		for keep := range len(g.Tail) + 1 {
			keeps = append(keeps, keep)
		}
		for _, keep := range keeps {
			kept := 0
			for kept < keep && kept < len(g.Tail) {
				kept++
			}
			want := impl.Log{Safe: append(bytes.Clone(g.Safe), g.Tail[:kept]...)}
			if got := impl.Crash(g, keep); !sameLog(got, want) {
				t.Errorf("Crash(%v, %d) = %v, want %v", g, keep, got, want)
			}
		}
	}
}

func TestScanFindsRecordsOfEachSize(t *testing.T) {
	var l [][]byte
	for _, size := range recordSizes() {
		l = append(l, ascendingBytes(size))
		safe := plainRecords(l)
		for _, tail := range [][]byte{nil, {1, 65}, {128}} {
			got, end := impl.Scan(impl.Log{Safe: safe, Tail: tail})
			if !sameRecords(got, l) || end != len(safe) {
				t.Errorf("of %d records Scan finds %d, up to %d of %d", len(l), len(got), end, len(safe))
			}
			checkRead(t, impl.Log{Safe: safe, Tail: tail})
		}
	}
}

func TestScanAndMendOfARecordThatIsCutOff(t *testing.T) {
	ahead := [][]byte{{65}, {}, ascendingBytes(128)}
	for _, size := range []int{0, 1, 127, 128, 300, impl.MaxRecord} {
		head := plainRecords(ahead)
		all := plainRecord(bytes.Clone(head), ascendingBytes(size))
		for cut := len(head); cut < len(all); cut++ {
			// The rest stands both in Tail and behind Safe's length: neither is Safe.
			g := impl.Log{Safe: all[:cut], Tail: all[cut:]}
			l, end := impl.Scan(g)
			if !sameRecords(l, ahead) || end != len(head) {
				t.Fatalf("%d bytes of a record of %d: Scan finds %d records, up to %d", cut-len(head), size, len(l), end)
			}
			mended := impl.Mend(g)
			if !sameLog(mended, impl.Log{Safe: head}) || !sameLog(impl.Mend(mended), mended) {
				t.Fatalf("%d bytes of a record of %d: Mend leaves %d and %d", cut-len(head), size, len(mended.Safe), len(mended.Tail))
			}
		}
	}
}

func TestScanAndMendStopAtWhatIsNoRecord(t *testing.T) {
	long := make([]byte, 2*impl.MaxRecord)
	cases := []struct {
		why string
		num []byte
	}{
		{"MaxRecord + 1", []byte{241, 46}},
		{"MaxRecord + 2", []byte{242, 46}},
		{"twice MaxRecord", []byte{224, 93}},
		{"16384", []byte{128, 128, 1}},
		{"MaxNum", []byte{255, 255, 255, 255, 7}},
		{"above MaxNum", []byte{128, 128, 128, 128, 8}},
		{"1, were it 32 bits", []byte{129, 128, 128, 128, 16}},
		{"0 in two bytes", []byte{128, 0}},
		{"1 in two bytes", []byte{129, 0}},
		{"128 in three bytes", []byte{128, 129, 0}},
		{"1 in five bytes", []byte{129, 128, 128, 128, 0}},
		{"1 in six bytes", []byte{129, 128, 128, 128, 128, 0}},
		{"six bytes", []byte{129, 129, 129, 129, 129, 1}},
	}
	for _, c := range cases {
		for _, ahead := range [][][]byte{nil, {{}}, {{65, 66}, ascendingBytes(200)}} {
			head := plainRecords(ahead)
			for _, behind := range [][]byte{nil, {65}, long} {
				g := impl.Log{Safe: append(append(bytes.Clone(head), c.num...), behind...), Tail: []byte{1, 65}}
				l, end := impl.Scan(g)
				if !sameRecords(l, ahead) || end != len(head) {
					t.Errorf("%s: Scan finds %d records of %d, up to %d of %d", c.why, len(l), len(ahead), end, len(head))
				}
				checkRead(t, g)
			}
		}
	}
	most := append([]byte{240, 46}, make([]byte, impl.MaxRecord)...)
	if l, end := impl.Scan(impl.Log{Safe: most}); len(l) != 1 || len(l[0]) != impl.MaxRecord || end != len(most) {
		t.Error("a record of MaxRecord bytes is not found")
	}
}

func TestScanAndMendOfNumbersThatAreCutOff(t *testing.T) {
	for _, num := range [][]byte{{128}, {240}, {255, 255}, {128, 128, 128}, {129, 128, 128, 128}} {
		for _, ahead := range [][][]byte{nil, {{}}, {{65}, {66, 67}}} {
			head := plainRecords(ahead)
			g := impl.Log{Safe: append(bytes.Clone(head), num...)}
			if l, end := impl.Scan(g); !sameRecords(l, ahead) || end != len(head) {
				t.Errorf("Scan(%v) = %v, %d", g.Safe, l, end)
			}
			checkRead(t, g)
		}
	}
}

func TestScanAndMendOfManyLists(t *testing.T) {
	for size := range 7 {
		everyList([]byte{0, 1, 2, 4, 128, 255}, size, func(b []byte) {
			checkRead(t, impl.Log{Safe: b, Tail: []byte{1, 65}})
		})
	}
}

func TestAMillionEmptyRecords(t *testing.T) {
	g := impl.Log{Safe: make([]byte, impl.MaxLog)}
	if l, end := impl.Scan(g); len(l) != impl.MaxLog || end != impl.MaxLog {
		t.Errorf("Scan finds %d records, up to %d", len(l), end)
	}
	if mended := impl.Mend(g); !sameLog(mended, g) {
		t.Errorf("Mend leaves %d bytes", len(mended.Safe))
	}
}

func mustWrite(t *testing.T, g impl.Log, rec []byte) impl.Log {
	t.Helper()
	g, ok := impl.Write(g, rec)
	if !ok {
		t.Fatalf("a record of %d bytes can't be written", len(rec))
	}
	return g
}

// What stood whole in a log that was cut off anywhere, and then the record.
func TestARecordStandsBehindAllThatWereWhole(t *testing.T) {
	l := [][]byte{{65}, {}, ascendingBytes(130), {1, 2, 3}, {}}
	all := plainRecords(l)
	for cut := range len(all) + 1 {
		whole, _ := plainScan(all[:cut])
		for _, size := range recordSizes() {
			rec := ascendingBytes(size)
			g := impl.Sync(mustWrite(t, impl.Mend(impl.Log{Safe: all[:cut]}), rec))
			want := append(whole[:len(whole):len(whole)], rec)
			if got, end := impl.Scan(g); !sameRecords(got, want) || end != len(g.Safe) {
				t.Fatalf("cut at %d, a record of %d bytes: %d records, up to %d of %d", cut, size, len(got), end, len(g.Safe))
			}
		}
	}
}

// Several records stand in Tail when the crash comes: those are there that are
// whole in what is kept, and the next one written stands behind them.
func TestACrashLeavesRecordsWholeOrNotAtAll(t *testing.T) {
	synced := [][]byte{{65, 66}, ascendingBytes(128)}
	pending := [][]byte{{67}, {}, ascendingBytes(127), ascendingBytes(129), {68, 69}}
	g := impl.Log{}
	for _, rec := range synced {
		g = impl.Sync(mustWrite(t, g, rec))
	}
	for _, rec := range pending {
		g = mustWrite(t, g, rec)
	}
	for keep := -1; keep <= len(g.Tail)+1; keep++ {
		want := append([][]byte{}, synced...)
		used := 0
		for _, rec := range pending {
			used += len(plainRecord(nil, rec))
			if used <= keep {
				want = append(want, rec)
			}
		}
		fallen := impl.Crash(g, keep)
		if l, _ := impl.Scan(fallen); !sameRecords(l, want) {
			t.Fatalf("%d bytes kept: %d records, want %d", keep, len(l), len(want))
		}
		next := impl.Sync(mustWrite(t, impl.Mend(fallen), []byte{70}))
		if l, _ := impl.Scan(next); !sameRecords(l, append(want, []byte{70})) {
			t.Fatalf("%d bytes kept, and one record more: %d records, want %d", keep, len(l), len(want)+1)
		}
	}
}

// A long life of one log, held against lists of the records that must be there.
func TestALogThatLivesLong(t *testing.T) {
	seed := uint32(1)
	draw := func(below int) int {
		seed = seed*1664525 + 1013904223
		return int(seed>>8) % below
	}
	var g impl.Log
	var safe, tail [][]byte
	for step := range 3000 {
		switch draw(5) {
		case 0, 1:
			rec := ascendingBytes(draw(140))
			g = mustWrite(t, g, rec)
			tail = append(tail, rec)
		case 2:
			g = impl.Sync(g)
			safe, tail = append(safe, tail...), nil
		case 3:
			keep := draw(len(g.Tail)+20) - 10
			g = impl.Mend(impl.Crash(g, keep))
			for _, rec := range tail {
				keep -= len(plainRecord(nil, rec))
				if keep < 0 {
					break
				}
				safe = append(safe, rec)
			}
			tail = nil
		case 4:
			g, tail = impl.Mend(g), nil
		}
		if !bytes.Equal(g.Safe, plainRecords(safe)) || !bytes.Equal(g.Tail, plainRecords(tail)) {
			t.Fatalf("step %d: the log is not its records", step)
		}
	}
	if l, end := impl.Scan(g); !sameRecords(l, safe) || end != len(g.Safe) || len(l) < 100 {
		t.Fatalf("%d records, want %d", len(l), len(safe))
	}
}

// A memory that a log's Safe and Tail and a record are cut from, with room
// behind each that the next one begins in.
type logMemory struct {
	memory []byte
	before []byte
	log    impl.Log
	rec    []byte
}

func newLogMemory(safe []byte, tail []byte, rec []byte) logMemory {
	m := logMemory{}
	var ends []int
	for _, b := range [][]byte{safe, tail, rec} {
		m.memory = append(m.memory, b...)
		ends = append(ends, len(m.memory))
		m.memory = append(m.memory, bytes.Repeat([]byte{77}, 9)...)
	}
	m.memory = append(m.memory, bytes.Repeat([]byte{78}, 3*len(m.memory))...)
	m.before = bytes.Clone(m.memory)
	m.log = impl.Log{Safe: m.memory[:ends[0]], Tail: m.memory[ends[0]+9 : ends[1]]}
	m.rec = m.memory[ends[1]+9 : ends[2]]
	return m
}

// checkLogApart writes into one list of an answer and wants the other one and
// the arguments to stay as they are; then the other way round.
func checkLogApart(t *testing.T, what string, m logMemory, answer impl.Log) {
	t.Helper()
	safe, tail := bytes.Clone(answer.Safe), bytes.Clone(answer.Tail)
	checkApart(t, what+", Safe", answer.Safe, m.memory, m.before)
	if !bytes.Equal(answer.Tail, tail) {
		t.Errorf("%s: Tail shares memory with Safe", what)
	}
	copy(answer.Safe, safe)
	checkApart(t, what+", Tail", answer.Tail, m.memory, m.before)
	if !bytes.Equal(answer.Safe, safe) {
		t.Errorf("%s: Safe shares memory with Tail", what)
	}
}

func memories() []logMemory {
	var l []logMemory
	for _, safe := range [][]byte{{}, {1, 65, 2, 66, 67}, {1, 65, 3, 66}} {
		for _, tail := range [][]byte{{}, {1, 68}, {2, 68}} {
			for _, size := range []int{0, 1, 2, 128, impl.MaxRecord + 1} {
				l = append(l, newLogMemory(safe, tail, ascendingBytes(size)))
			}
		}
	}
	return l
}

func TestLogAnswersAreNewMemory(t *testing.T) {
	for i, m := range memories() {
		name := " " + strconv.Itoa(i)
		got, _ := impl.Write(m.log, m.rec)
		checkLogApart(t, "Write"+name, m, got)
		checkLogApart(t, "Sync"+name, m, impl.Sync(m.log))
		for _, keep := range []int{-1, 0, 1, 2, 3} {
			checkLogApart(t, "Crash"+name, m, impl.Crash(m.log, keep))
		}
		checkLogApart(t, "Mend"+name, m, impl.Mend(m.log))
	}
}

func TestWriteOfAFullLogIsNewMemory(t *testing.T) {
	b := bytes.Repeat([]byte{5}, impl.MaxLog)
	m := logMemory{memory: b, before: bytes.Clone(b), log: impl.Log{Safe: b[:10], Tail: b[10:]}}
	got, ok := impl.Write(m.log, b[:3])
	if ok {
		t.Fatal("there is no room")
	}
	checkLogApart(t, "Write", m, got)
}

// The same memory may stand in Safe, Tail and the record.
func TestWriteOfTheLogItself(t *testing.T) {
	b, memory := withRoom([]byte{1, 65})
	before := bytes.Clone(memory)
	got, ok := impl.Write(impl.Log{Safe: b, Tail: b}, b)
	if !ok || !sameLog(got, impl.Log{Safe: []byte{1, 65}, Tail: []byte{1, 65, 2, 1, 65}}) {
		t.Error(got, ok)
	}
	checkLogApart(t, "Write of itself", logMemory{memory: memory, before: before}, got)
}

func TestScannedRecordsAreNewMemory(t *testing.T) {
	want := [][]byte{{65}, {}, ascendingBytes(9), {66, 67}}
	m := newLogMemory(plainRecords(want), []byte{1, 65}, nil)
	l, _ := impl.Scan(m.log)
	for i := range l {
		checkApart(t, "Scan", l[i], m.memory, m.before)
		copy(l[i], want[i])
		if !sameRecords(l, want) {
			t.Fatalf("record %d shares memory with another one", i)
		}
	}
}

func TestWhatLiesBehindALogIsNotHandedOut(t *testing.T) {
	m := newLogMemory([]byte{1, 65, 3, 66}, []byte{1, 68}, nil)
	written, _ := impl.Write(m.log, []byte{70})
	for _, g := range []impl.Log{written, impl.Sync(m.log), impl.Crash(m.log, 1), impl.Mend(m.log)} {
		for _, b := range [][]byte{g.Safe, g.Tail} {
			for _, x := range b[len(b):cap(b)] {
				if x != 0 {
					t.Errorf("behind %v stands %d", b, x)
				}
			}
		}
	}
}
