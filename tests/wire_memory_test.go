package tests

import (
	"reflect"
	"testing"

	"loop.example/g00359/impl"
)

// Every answer is new memory, of lines and bytes too.

type cmdArgs struct{ C impl.Cmd }

type bytesArgs struct{ B []byte }

type accountArgs struct{ A impl.Account }

type replyArgs struct{ R impl.Reply }

type bytesAnswer struct {
	B  []byte
	Ok bool
}

type cmdAnswer struct {
	C    impl.Cmd
	Code int
	At   int
}

type accountAnswer struct {
	A  impl.Account
	Ok bool
}

func callCmdText(args any) any {
	b, ok := impl.CmdText(args.(cmdArgs).C)
	return bytesAnswer{b, ok}
}

func callCmdRead(args any) any {
	c, code, at := impl.CmdRead(args.(bytesArgs).B)
	return cmdAnswer{c, code, at}
}

func callAccountBytes(args any) any {
	b, ok := impl.AccountBytes(args.(accountArgs).A)
	return bytesAnswer{b, ok}
}

func callAccountRead(args any) any {
	a, ok := impl.AccountRead(args.(bytesArgs).B)
	return accountAnswer{a, ok}
}

func callReplyText(args any) any {
	return bytesAnswer{impl.ReplyText(args.(replyArgs).R), true}
}

func TestLinesAreNewMemory(t *testing.T) {
	for _, x := range knownLines() {
		checkAnswerApart(t, "CmdText", cmdArgs{x.c}, callCmdText)
		x.c.Kind = 10
		checkAnswerApart(t, "CmdText, refused", cmdArgs{x.c}, callCmdText)
	}
}

func TestReadCommandsAreNewMemory(t *testing.T) {
	for _, x := range knownLines() {
		for n := range len(x.line) + 1 {
			checkAnswerApart(t, "CmdRead", bytesArgs{[]byte(x.line[:n])}, callCmdRead)
		}
		checkAnswerApart(t, "CmdRead", bytesArgs{[]byte(x.line + " ?")}, callCmdRead)
	}
}

func TestAccountsAndTheirBytesAreNewMemory(t *testing.T) {
	for _, a := range someAccounts() {
		checkAnswerApart(t, "AccountBytes", accountArgs{a}, callAccountBytes)
		checkAnswerApart(t, "AccountRead", bytesArgs{plainAccountBytes(a)}, callAccountRead)
	}
	for _, a := range badAccounts() {
		checkAnswerApart(t, "AccountBytes, refused", accountArgs{a}, callAccountBytes)
		checkAnswerApart(t, "AccountRead, refused", bytesArgs{plainAccountBytes(a)}, callAccountRead)
	}
	b := plainAccountBytes(smallAccount())
	for n := range b {
		checkAnswerApart(t, "AccountRead, cut off", bytesArgs{b[:n]}, callAccountRead)
	}
}

func TestReplyLinesAreNewMemory(t *testing.T) {
	for _, a := range someAccounts() {
		_, r := impl.Do(a, impl.Cmd{Kind: impl.CmList})
		checkAnswerApart(t, "ReplyText", replyArgs{r}, callReplyText)
		for _, b := range a.Boxes {
			r.Box = b
			checkAnswerApart(t, "ReplyText", replyArgs{r}, callReplyText)
		}
		r.Code = 7
		checkAnswerApart(t, "ReplyText, refused", replyArgs{r}, callReplyText)
	}
}

// What lies behind a line or an account's bytes is not read, even where it
// would go on with them.
func TestRoomBehindLinesIsNotRead(t *testing.T) {
	for _, x := range knownLines() {
		long := []byte(x.line + ` AWAY SINCE 5 "x" 1`)
		c, code, at := impl.CmdRead(long[:len(x.line)])
		if !sameCmd(c, x.c) || code != impl.LnWell || at != 0 {
			t.Errorf("CmdRead(%q) answers %v, %d, %d", x.line, c, code, at)
		}
	}
	line := []byte(`APPEND a (SAFDR) "text" AWAY`)
	for n := range len(line) {
		c, code, at := impl.CmdRead(line[:n])
		want, wantCode, wantAt := plainCmdRead(append([]byte(nil), line[:n]...))
		if !sameCmd(c, want) || code != wantCode || at != wantAt {
			t.Errorf("CmdRead(%q) answers %v, %d, %d", line[:n], c, code, at)
		}
	}
	b := plainAccountBytes(smallAccount())
	for n := range b {
		checkNoAccount(t, "cut off, with the rest behind", b[:n])
	}
}

// Two calls with one argument share nothing either: what is written into the
// first answer is not in the second.
func TestAnswersAreNotKept(t *testing.T) {
	for _, x := range knownLines() {
		line, _ := impl.CmdText(x.c)
		first, _, _ := impl.CmdRead(line)
		scribble(reflect.ValueOf(&first).Elem())
		scribble(reflect.ValueOf(&line).Elem())
		checkText(t, x.c, x.line)
	}
	for _, a := range someAccounts() {
		b, _ := impl.AccountBytes(a)
		first, _ := impl.AccountRead(b)
		scribble(reflect.ValueOf(&first).Elem())
		scribble(reflect.ValueOf(&b).Elem())
		checkBytes(t, a, plainAccountBytes(a))
	}
}
