package tests

import (
	"bytes"
	"math"
	"slices"
	"testing"

	"loop.example/g00359/impl"
)

// RecordOk: what a record must be, for promises 6 and 8.

func TestRecordConstants(t *testing.T) {
	got := []int{
		impl.MaxHouses, impl.MaxUsers, impl.MaxCalls,
		impl.StNone, impl.StServing, impl.StFrozen, impl.StInstalled,
		impl.RcCmd, impl.RcFreeze, impl.RcThaw, impl.RcInstall, impl.RcGrant, impl.RcDrop,
		impl.RcMove, impl.RcCut, impl.RcAbort,
	}
	want := []int{3, 3, 300, 0, 1, 2, 3, 0, 1, 2, 3, 4, 5, 6, 7, 8}
	if !slices.Equal(got, want) {
		t.Fatal(got)
	}
}

func checkRecord(t *testing.T, why string, r impl.Record, want bool) {
	t.Helper()
	if impl.RecordOk(r) != want {
		t.Errorf("%s: RecordOk(%v) is not %v", why, r, want)
	}
}

func TestRecordOkOfWhatMayBe(t *testing.T) {
	kinds := map[int]int{}
	for _, r := range goodRecords() {
		checkRecord(t, "good", r, true)
		kinds[r.Kind]++
	}
	if len(kinds) != 9 {
		t.Fatal(kinds)
	}
	for why, r := range badRecords() {
		checkRecord(t, why, r, false)
	}
}

func TestRecordOkOfKinds(t *testing.T) {
	for kind := -2; kind <= 10; kind++ {
		checkRecord(t, "what a kind wants", recordOfKind(kind, 0, someNum(kind)), kind >= 0 && kind <= 8)
		checkRecord(t, "a bare record", bareRecord(kind, 0, 0), kind >= 1 && kind <= 8)
	}
	for _, kind := range []int{math.MinInt, math.MaxInt} {
		checkRecord(t, "a kind that there is not", bareRecord(kind, 0, 0), false)
		checkRecord(t, "a kind that there is not", bareRecord(kind, 0, 1), false)
	}
}

func TestRecordOkOfUsers(t *testing.T) {
	for kind := range 9 {
		for user, want := range map[int]bool{
			math.MinInt: false, -1: false, 0: true, 1: true, impl.MaxUsers - 1: true, impl.MaxUsers: false, math.MaxInt: false,
		} {
			checkRecord(t, "user", recordOfKind(kind, user, someNum(kind)), want)
		}
	}
}

// The least and the greatest N of each kind.
func TestRecordOkOfNumbers(t *testing.T) {
	for kind, limits := range [][2]int{
		{1, 1000000}, {0, 1000000}, {0, 1000000}, {0, 1000000}, {0, 1000000}, {0, 1000000}, {0, 2}, {0, 0}, {0, 0},
	} {
		for _, n := range []int{
			math.MinInt, -1, 0, 1, 2, 3, impl.MaxHouses - 1, impl.MaxHouses, impl.MaxSeq - 1, impl.MaxSeq, impl.MaxSeq + 1, impl.MaxNum, math.MaxInt,
		} {
			checkRecord(t, "N", recordOfKind(kind, 2, n), n >= limits[0] && n <= limits[1])
		}
	}
}

func TestRecordOkOfCommands(t *testing.T) {
	good, bad := 0, 0
	for _, c := range goodCmds() {
		for _, x := range variants(c) {
			want := plainCmdOk(x)
			checkRecord(t, "a command", cmdRecord(1, 7, x), want)
			if want {
				good++
			} else {
				bad++
			}
		}
	}
	if good < 100 || bad < 100 {
		t.Fatal(good, bad)
	}
	checkRecord(t, "no command", cmdRecord(0, 1, impl.Cmd{}), false)
	checkRecord(t, "no name", cmdRecord(0, 1, createCmd("")), false)
	checkRecord(t, "a list", cmdRecord(0, 1, impl.Cmd{Kind: impl.CmList}), true)
}

func TestRecordOkOfAccounts(t *testing.T) {
	for _, a := range someAccounts() {
		checkRecord(t, "an account", installRecord(2, 9, a), true)
	}
	for why, a := range badAccounts() {
		checkRecord(t, why, installRecord(2, 9, a), false)
	}
	checkRecord(t, "Valid -1", installRecord(0, 1, impl.Account{Valid: -1}), false)
	checkRecord(t, "Seen -1", installRecord(0, 1, impl.Account{Seen: []int{-1}}), false)
}

// partCmds have one field each that is not zero; so have partAccounts.
func partCmds() []impl.Cmd {
	return []impl.Cmd{
		{Kind: 1}, {Kind: -1}, {Kind: impl.CmList}, {Box: []byte("a")}, {Box: []byte{0}}, {To: []byte("a")}, {Uid: 1}, {Uid: -1},
		{Mode: 1}, {Mode: -1}, {Flags: 1}, {Flags: -1}, {Since: 1}, {Since: -1}, {Text: []byte("a")}, {Text: []byte{0}},
		createCmd("in"),
	}
}

func partAccounts() []impl.Account {
	return []impl.Account{
		{Valid: 1}, {Valid: -1}, {Boxes: []impl.Box{{}}}, {Seen: []int{1}}, {Seen: []int{0}}, smallAccount(), fullAccount(),
	}
}

func TestRecordOkWantsAllElseZero(t *testing.T) {
	for kind := range 9 {
		base := recordOfKind(kind, 1, someNum(kind))
		checkRecord(t, "as it is", base, true)
		for _, c := range partCmds() {
			if kind != impl.RcCmd {
				r := base
				r.Cmd = c
				checkRecord(t, "a command more", r, false)
			}
		}
		for _, a := range partAccounts() {
			if kind != impl.RcInstall {
				r := base
				r.Acc = a
				checkRecord(t, "an account more", r, false)
			}
		}
	}
}

// An empty list and nil are the same value.
func TestRecordOkOfEmptyLists(t *testing.T) {
	for kind := range 9 {
		r := recordOfKind(kind, 1, someNum(kind))
		if kind != impl.RcCmd {
			r.Cmd = impl.Cmd{Box: []byte{}, To: []byte{}, Text: []byte{}}
		}
		if kind != impl.RcInstall {
			r.Acc = impl.Account{Boxes: []impl.Box{}, Seen: []int{}}
		}
		checkRecord(t, "empty lists", r, true)
		b, ok := impl.RecordBytes(r)
		if !ok || !bytes.Equal(b, plainRecordBytes(r)) {
			t.Errorf("RecordBytes(%v) answers %v, %v", r, b, ok)
		}
	}
}

// Every kind with all edges of its fields at once.
func TestRecordOkAtTheEdges(t *testing.T) {
	met := map[bool]int{}
	cmds := append(partCmds(), append(goodCmds(), impl.Cmd{})...)
	accounts := append(partAccounts(), impl.Account{}, longAccount())
	for kind := -1; kind <= 9; kind++ {
		for _, user := range []int{-1, 0, 2, 3} {
			for _, n := range []int{-1, 0, 1, 2, 3, impl.MaxSeq, impl.MaxSeq + 1} {
				for _, c := range cmds {
					for _, a := range accounts {
						r := impl.Record{Kind: kind, User: user, N: n, Cmd: c, Acc: a}
						want := plainRecordOk(r)
						checkRecord(t, "edges", r, want)
						met[want]++
					}
				}
			}
		}
	}
	if met[true] < 100 || met[false] < 100 {
		t.Fatal(met)
	}
}
