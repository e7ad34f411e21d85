package tests

import (
	"reflect"
	"testing"

	"loop.example/g00359/impl"
)

// Every answer is new memory, of mails as of all else. These tests look at all
// lists of a value, whatever it is made of.

// spare is how much room lies behind each list of an argument.
const spare = 3

// roomy answers a copy of v in which each list has spare room behind it, full
// of what would be seen in an answer if it were read.
func roomy(v reflect.Value) reflect.Value {
	out := reflect.New(v.Type()).Elem()
	switch v.Kind() {
	case reflect.Struct:
		for i := range v.NumField() {
			out.Field(i).Set(roomy(v.Field(i)))
		}
	case reflect.Slice:
		list := reflect.MakeSlice(v.Type(), v.Len()+spare, v.Len()+spare)
		for i := range v.Len() + spare {
			if i < v.Len() {
				list.Index(i).Set(roomy(v.Index(i)))
			} else {
				list.Index(i).Set(junk(v.Type().Elem()))
			}
		}
		out.Set(list.Slice(0, v.Len()))
	default:
		out.Set(v)
	}
	return out
}

func junk(t reflect.Type) reflect.Value {
	out := reflect.New(t).Elem()
	switch t.Kind() {
	case reflect.Struct:
		for i := range t.NumField() {
			out.Field(i).Set(junk(t.Field(i).Type))
		}
	case reflect.Slice:
		list := reflect.MakeSlice(t, 1, 1)
		list.Index(0).Set(junk(t.Elem()))
		out.Set(list)
	case reflect.Uint8:
		out.SetUint(113)
	case reflect.Int:
		out.SetInt(4)
	}
	return out
}

// whole answers a copy of v in which each list ends where its room does.
func whole(v reflect.Value) reflect.Value {
	out := reflect.New(v.Type()).Elem()
	switch v.Kind() {
	case reflect.Struct:
		for i := range v.NumField() {
			out.Field(i).Set(whole(v.Field(i)))
		}
	case reflect.Slice:
		v = v.Slice(0, v.Cap())
		list := reflect.MakeSlice(v.Type(), v.Len(), v.Len())
		for i := range v.Len() {
			list.Index(i).Set(whole(v.Index(i)))
		}
		out.Set(list)
	default:
		out.Set(v)
	}
	return out
}

// scribble writes other things into all lists of v, and the room behind them.
func scribble(v reflect.Value) {
	switch v.Kind() {
	case reflect.Struct:
		for i := range v.NumField() {
			scribble(v.Field(i))
		}
	case reflect.Slice:
		v = v.Slice(0, v.Cap())
		for i := range v.Len() {
			scribble(v.Index(i))
			v.Index(i).Set(junk(v.Type().Elem()))
		}
	}
}

// piece is the memory of one list, with the room behind it.
type piece struct {
	from uintptr
	to   uintptr
}

func pieces(v reflect.Value) []piece {
	var l []piece
	switch v.Kind() {
	case reflect.Struct:
		for i := range v.NumField() {
			l = append(l, pieces(v.Field(i))...)
		}
	case reflect.Slice:
		if v.Cap() > 0 {
			l = append(l, piece{v.Pointer(), v.Pointer() + uintptr(v.Cap())*v.Type().Elem().Size()})
		}
		for i := range v.Len() {
			l = append(l, pieces(v.Index(i))...)
		}
	}
	return l
}

// checkAnswerApart calls with roomy arguments, and wants the answer to be what
// it is without the room, the arguments and their room to stay as they were
// even where the answer is written into, and no list to share any memory.
func checkAnswerApart(t *testing.T, what string, args any, call func(args any) any) {
	t.Helper()
	plain := call(args)
	given := roomy(reflect.ValueOf(args))
	before := whole(given)
	answer := reflect.ValueOf(call(given.Interface()))
	if !reflect.DeepEqual(answer.Interface(), plain) {
		t.Errorf("%s: what lies behind a list is told: %v, want %v", what, answer, plain)
	}
	if !reflect.DeepEqual(whole(given).Interface(), before.Interface()) {
		t.Errorf("%s: the call wrote into an argument", what)
	}
	l := pieces(answer)
	for i, x := range l {
		for _, y := range append(l[:i:i], pieces(given)...) {
			if x.from < y.to && y.from < x.to {
				t.Errorf("%s: a list of the answer shares memory", what)
			}
		}
	}
	scribble(answer)
	if !reflect.DeepEqual(whole(given).Interface(), before.Interface()) {
		t.Errorf("%s: writing into the answer changed an argument", what)
	}
}

type doArgs struct {
	A impl.Account
	C impl.Cmd
}

type doAnswer struct {
	A impl.Account
	R impl.Reply
}

func callDo(args any) any {
	x := args.(doArgs)
	a, r := impl.Do(x.A, x.C)
	return doAnswer{a, r}
}

type mergeArgs struct {
	Old impl.Box
	Ch  impl.Box
}

func callMerge(args any) any {
	x := args.(mergeArgs)
	b, _ := impl.Merge(x.Old, x.Ch)
	return b
}

func TestDoAnswersAreNewMemory(t *testing.T) {
	accounts := []impl.Account{{}, smallAccount(), fullAccount(), filled(0), filled(1), crowded(40, 2, 5, 6), crowded(38, 2, 5, 6)}
	for _, a := range accounts {
		var names [][]byte
		for _, b := range a.Boxes {
			names = append(names, b.Name)
		}
		names = append(names, []byte("b"))
		for _, c := range goodCmds() {
			for _, name := range names {
				for _, uid := range []int{2, 4, 43} {
					if c.Box != nil {
						c.Box = name
					}
					if c.Uid > 0 {
						c.Uid = uid
					}
					checkAnswerApart(t, "Do", doArgs{a, c}, callDo)
					if c.Kind == impl.CmCopy {
						for _, to := range names {
							c.To = to
							c.Mode = 1 - c.Mode
							checkAnswerApart(t, "Do", doArgs{a, c}, callDo)
						}
					}
				}
			}
		}
	}
}

func TestAnswersOfLivesAreNewMemory(t *testing.T) {
	walk(t, 20, 40, func(life int, was impl.Account, c impl.Cmd, is impl.Account, r impl.Reply) {
		checkAnswerApart(t, "Do", doArgs{was, c}, callDo)
		for _, b := range is.Boxes {
			for _, old := range was.Boxes {
				checkAnswerApart(t, "Merge", mergeArgs{old, b}, callMerge)
			}
		}
	})
}

func TestMergeAnswersAreNewMemory(t *testing.T) {
	old, ch := mergeOld(), mergeNew()
	checkAnswerApart(t, "Merge", mergeArgs{old, ch}, callMerge)
	checkAnswerApart(t, "Merge of one box", mergeArgs{old, old}, callMerge)
	checkAnswerApart(t, "Merge, refused", mergeArgs{ch, old}, callMerge)
	full := fullBox("in", 7)
	checkAnswerApart(t, "Merge of a full box", mergeArgs{full, full}, callMerge)
}

// The lists of an argument may share memory among themselves.
func TestArgumentsThatShareMemory(t *testing.T) {
	text := []byte("same")
	a := smallAccount()
	a.Boxes[0].Mails[0].Text, a.Boxes[0].Mails[1].Text = text, text[:2]
	name := []byte("in")
	a.Boxes[0].Name = name
	for _, c := range []impl.Cmd{
		{Kind: impl.CmAppend, Box: name, Text: text},
		{Kind: impl.CmCopy, Box: name, To: name, Uid: 2},
		{Kind: impl.CmCopy, Box: name, To: name, Uid: 2, Mode: 1},
		{Kind: impl.CmChanges, Box: name, Since: 10},
		{Kind: impl.CmFetch, Box: name, Uid: 4},
		{Kind: impl.CmList},
	} {
		got, r := impl.Do(a, c)
		l := pieces(reflect.ValueOf(doAnswer{got, r}))
		for i, x := range l {
			for _, y := range append(l[:i:i], pieces(reflect.ValueOf(doArgs{a, c}))...) {
				if x.from < y.to && y.from < x.to {
					t.Errorf("Do of %v: a list of the answer shares memory", c)
				}
			}
		}
	}
}

// What AccountOk and CmdOk are asked of is neither changed, nor more than it is.
func TestAsksLookAtListsAlone(t *testing.T) {
	for _, a := range []impl.Account{{}, smallAccount(), fullAccount()} {
		given := roomy(reflect.ValueOf(a))
		before := whole(given)
		if !impl.AccountOk(given.Interface().(impl.Account)) {
			t.Error("AccountOk is false where there is room behind lists")
		}
		if !reflect.DeepEqual(whole(given).Interface(), before.Interface()) {
			t.Error("AccountOk wrote into an argument")
		}
	}
	for _, c := range goodCmds() {
		given := roomy(reflect.ValueOf(c))
		before := whole(given)
		if !impl.CmdOk(given.Interface().(impl.Cmd)) {
			t.Errorf("CmdOk(%v) is false where there is room behind lists", c)
		}
		if !reflect.DeepEqual(whole(given).Interface(), before.Interface()) {
			t.Error("CmdOk wrote into an argument")
		}
	}
}
