package tests

import (
	"fmt"
	"math"
	"strings"
	"testing"

	"loop.example/leaderlesslog/impl"
)

// validCommands lists all valid commands, as chapter 1 tells them.
func validCommands() []impl.Command {
	var list []impl.Command
	for key := 0; key <= 5; key++ {
		list = append(list, impl.Command{Kind: 0, Key: key})
		for value := 0; value <= 99; value++ {
			list = append(list, impl.Command{Kind: 1, Key: key, Value: value}, impl.Command{Kind: 2, Key: key, Value: value})
		}
	}
	return append(list, impl.Command{Kind: 3})
}

// validTexts lists the text of each valid command.
func validTexts() map[string]impl.Command {
	texts := map[string]impl.Command{}
	for _, c := range validCommands() {
		texts[wantText(c)] = c
	}
	return texts
}

func wantText(c impl.Command) string {
	switch c.Kind {
	case 0:
		return fmt.Sprintf("read %d", c.Key)
	case 1:
		return fmt.Sprintf("put %d %d", c.Key, c.Value)
	case 2:
		return fmt.Sprintf("add %d %d", c.Key, c.Value)
	}
	return "none"
}

// edgeCommands lists commands with all kinds, keys and values at and beyond the limits.
func edgeCommands() []impl.Command {
	numbers := []int{math.MinInt, -100, -3, -2, -1, 0, 1, 2, 3, 4, 5, 6, 7, 98, 99, 100, 101, 256, 1 << 32, math.MaxInt}
	var list []impl.Command
	for _, kind := range numbers {
		for _, key := range numbers {
			for _, value := range numbers {
				list = append(list, impl.Command{Kind: kind, Key: key, Value: value})
			}
		}
	}
	return list
}

// wantClash holds two commands against the sentence of the document, word by word.
func wantClash(valid map[impl.Command]bool, a, b impl.Command) bool {
	if !valid[a] || !valid[b] || a.Key != b.Key {
		return false
	}
	oneDoesNothing := a.Kind == impl.KindNone || b.Kind == impl.KindNone
	bothRead := a.Kind == impl.KindRead && b.Kind == impl.KindRead
	bothAdd := a.Kind == impl.KindAdd && b.Kind == impl.KindAdd
	return !oneDoesNothing && !bothRead && !bothAdd
}

func validSet() map[impl.Command]bool {
	valid := map[impl.Command]bool{}
	for _, c := range validCommands() {
		valid[c] = true
	}
	return valid
}

func TestCommandConstants(t *testing.T) {
	got := []int{impl.KeysMany, impl.ValueMax, impl.KindRead, impl.KindPut, impl.KindAdd, impl.KindNone}
	for i, want := range []int{6, 99, 0, 1, 2, 3} {
		if got[i] != want {
			t.Errorf("constant %d is %d, not %d", i, got[i], want)
		}
	}
}

// Promise 6, and what is valid at all.
func TestCommandValid(t *testing.T) {
	valid := validSet()
	for c := range valid {
		if !impl.CommandValid(c) {
			t.Errorf("%v is not valid", c)
		}
	}
	for _, c := range edgeCommands() {
		if got := impl.CommandValid(c); got != valid[c] {
			t.Errorf("CommandValid(%v) is %v", c, got)
		}
	}
}

// Promise 6, by its words.
func TestCommandInvalidBeyondLimits(t *testing.T) {
	for _, c := range validCommands() {
		far, much, more := c, c, c
		far.Key = impl.KeysMany
		much.Value = impl.ValueMax + 1
		more.Value = math.MaxInt
		for _, bad := range []impl.Command{far, much, more} {
			if impl.CommandValid(bad) {
				t.Errorf("%v is valid", bad)
			}
		}
		if c.Kind != impl.KindRead && c.Kind != impl.KindNone {
			continue
		}
		for value := 1; value <= impl.ValueMax; value++ {
			c.Value = value
			if impl.CommandValid(c) {
				t.Errorf("%v is valid", c)
			}
		}
	}
	for key := 1; key < impl.KeysMany; key++ {
		if c := (impl.Command{Kind: impl.KindNone, Key: key}); impl.CommandValid(c) {
			t.Errorf("%v is valid", c)
		}
	}
}

// Promises 1, 2 and 7, for each two valid commands.
func TestCommandsClash(t *testing.T) {
	valid := validSet()
	list := validCommands()
	for _, a := range list {
		for _, b := range list {
			if got := impl.CommandsClash(a, b); got != wantClash(valid, a, b) {
				t.Fatalf("CommandsClash(%v, %v) is %v", a, b, got)
			}
		}
	}
}

func TestCommandsClashByKinds(t *testing.T) {
	read, otherRead := impl.Command{Kind: impl.KindRead, Key: 2}, impl.Command{Kind: impl.KindRead, Key: 3}
	put, otherPut := impl.Command{Kind: impl.KindPut, Key: 2, Value: 7}, impl.Command{Kind: impl.KindPut, Key: 2, Value: 8}
	add, otherAdd := impl.Command{Kind: impl.KindAdd, Key: 2, Value: 7}, impl.Command{Kind: impl.KindAdd, Key: 2, Value: 8}
	addNothing := impl.Command{Kind: impl.KindAdd, Key: 2}
	none := impl.Command{Kind: impl.KindNone}
	readFirst, putFirst, addFirst := impl.Command{Kind: impl.KindRead}, impl.Command{Kind: impl.KindPut}, impl.Command{Kind: impl.KindAdd}
	for _, test := range []struct {
		a, b impl.Command
		want bool
	}{
		{read, read, false}, {put, put, true}, {add, add, false}, {none, none, false},
		{put, otherPut, true}, {add, otherAdd, false}, {add, addNothing, false},
		{read, put, true}, {read, add, true}, {put, add, true},
		{read, addNothing, true}, {put, addNothing, true},
		{otherRead, put, false}, {otherRead, add, false},
		{none, read, false}, {none, put, false}, {none, add, false},
		{none, readFirst, false}, {none, putFirst, false}, {none, addFirst, false},
	} {
		if got := impl.CommandsClash(test.a, test.b); got != test.want {
			t.Errorf("CommandsClash(%v, %v) is %v", test.a, test.b, got)
		}
		if got := impl.CommandsClash(test.b, test.a); got != test.want {
			t.Errorf("CommandsClash(%v, %v) is %v", test.b, test.a, got)
		}
	}
}

// What is invalid clashes with nothing, not even with itself.
func TestCommandsClashInvalid(t *testing.T) {
	valid := validSet()
	partners := validCommands()[:12]
	for key := range impl.KeysMany {
		for kind := range 3 {
			partners = append(partners, impl.Command{Kind: kind, Key: key})
		}
	}
	for _, c := range edgeCommands() {
		if valid[c] {
			continue
		}
		for _, other := range append(partners, c) {
			if impl.CommandsClash(c, other) || impl.CommandsClash(other, c) {
				t.Errorf("%v and %v clash", c, other)
			}
		}
	}
	for _, a := range edgeCommands() {
		twin := impl.Command{Kind: impl.KindPut, Key: a.Key, Value: 1}
		if !valid[twin] && (impl.CommandsClash(a, twin) || impl.CommandsClash(twin, a)) {
			t.Errorf("%v and %v clash", a, twin)
		}
	}
}

// Promise 3, and the text itself.
func TestCommandText(t *testing.T) {
	valid := validSet()
	for c := range valid {
		text := impl.CommandText(c)
		if text != wantText(c) {
			t.Errorf("CommandText(%v) is %q", c, text)
		}
		if back, ok := impl.CommandFrom(text); !ok || back != c {
			t.Errorf("CommandFrom(%q) is %v, %v", text, back, ok)
		}
	}
	for _, c := range edgeCommands() {
		if text := impl.CommandText(c); !valid[c] && text != "" {
			t.Errorf("CommandText(%v) is %q", c, text)
		}
	}
}

// checkFrom holds CommandFrom of a text, whatever it is, against the list of all texts.
func checkFrom(t *testing.T, texts map[string]impl.Command, s string) {
	t.Helper()
	want, wantOk := texts[s]
	got, ok := impl.CommandFrom(s)
	if got != want || ok != wantOk {
		t.Errorf("CommandFrom(%q) is %v, %v, not %v, %v", s, got, ok, want, wantOk)
	}
	if ok && (!impl.CommandValid(got) || impl.CommandText(got) != s) {
		t.Errorf("CommandFrom(%q) is %v, which has the text %q", s, got, impl.CommandText(got))
	}
}

// Promises 4 and 5: what differs from a text by one byte is a text only if it is one of the list.
func TestCommandFromNearTexts(t *testing.T) {
	texts := validTexts()
	for s := range texts {
		checkFrom(t, texts, s)
		checkFrom(t, texts, s+s)
		for i := 0; i <= len(s); i++ {
			checkFrom(t, texts, s[:i])
			checkFrom(t, texts, s[i:])
			for _, more := range []string{" ", "  ", "0", "1", "-", "+", ".", "\t", "\n", "\r", "\x00", "\xff", "\u00a0", "\u0661", "_"} {
				checkFrom(t, texts, s[:i]+more+s[i:])
			}
			if i < len(s) {
				checkFrom(t, texts, s[:i]+s[i+1:])
			}
		}
	}
}

func TestCommandFromAnyByte(t *testing.T) {
	texts := validTexts()
	for _, s := range []string{"read 0", "put 1 7", "put 5 99", "add 1 3", "add 0 10", "none"} {
		for i := range s {
			for b := range 256 {
				checkFrom(t, texts, s[:i]+string([]byte{byte(b)})+s[i+1:])
				checkFrom(t, texts, s[:i]+string([]byte{byte(b)})+s[i:])
			}
		}
		for b := range 256 {
			checkFrom(t, texts, s+string([]byte{byte(b)}))
		}
	}
}

// Promise 5, by its words.
func TestCommandFromFurtherBlank(t *testing.T) {
	for s := range validTexts() {
		for _, far := range []string{s + " ", " " + s, " " + s + " ", s + "  "} {
			if c, ok := impl.CommandFrom(far); ok || c != (impl.Command{}) {
				t.Errorf("CommandFrom(%q) is %v, %v", far, c, ok)
			}
		}
	}
}

func TestCommandFromInvalid(t *testing.T) {
	nines := strings.Repeat("9", 400)
	for _, s := range []string{
		"", " ", "  ", "   ", "\n",
		"read", "put", "add", "put 1", "add 1", "none 0", "none 0 0", "read 1 0", "read 1 2", "put 1 2 3", "add 1 2 3",
		"read  1", "put  1 2", "put 1  2", "add  1 2", "add 1  2", "read ", "put 1 ", "none ", " none",
		"read 00", "read 01", "put 01 2", "put 1 02", "put 1 00", "add 01 2", "add 1 02", "add 1 099",
		"read +1", "read -1", "read -0", "put +1 2", "put 1 +2", "put 1 -2", "put 1 -0", "add -0 1", "add 1 -1", "add 1 +1",
		"read 6", "put 6 1", "add 6 1", "put 1 100", "add 1 100", "put 10 1",
		"read 18446744073709551616", "put 1 18446744073709551617", "add 4294967297 1", "add 1 9223372036854775808",
		"read " + nines, "put 1 " + nines, "add " + nines + " 1", "put 1 " + strings.Repeat("0", 400) + "1",
		"Read 1", "READ 1", "puts 1 2", "pu 1 2", "NONE", "nil", "1 1", "put one 2", "put 1 two", "put 1.0 2", "put 1 0x2", "put 1 1e1", "put 1 1_0",
		"read\t1", "put\t1\t2", "read 1\n", "none\n", "none\x00", "\xff\xfe 1", "read \xff", "put 1 \xc3\x28", "read \u0661", "r\u00e9ad 1",
		strings.Repeat(" ", 5000), strings.Repeat("put ", 5000),
	} {
		if c, ok := impl.CommandFrom(s); ok || c != (impl.Command{}) {
			t.Errorf("CommandFrom(%q) is %v, %v", s, c, ok)
		}
	}
}

func FuzzCommandFrom(f *testing.F) {
	texts := validTexts()
	for _, s := range []string{"", "read 5", "put 0 99", "add 5 0", "none", "put 1 07"} {
		f.Add(s)
	}
	f.Fuzz(func(t *testing.T, s string) {
		checkFrom(t, texts, s)
	})
}
