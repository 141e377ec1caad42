package impl

import (
	"strconv"
	"strings"
)

// KeysMany is how many keys there are.
const KeysMany = 6

// ValueMax is the largest value of a command.
const ValueMax = 99

// KindRead reads a key.
const KindRead = 0

// KindPut puts a value at a key.
const KindPut = 1

// KindAdd adds a value at a key.
const KindAdd = 2

// KindNone does nothing.
const KindNone = 3

// Command is a command: its kind, its key, and its value.
type Command struct {
	Kind  int
	Key   int
	Value int
}

// act is what a valid command does. Each kind of command is a type of its own, so that an act has only the numbers that its kind uses.
type act interface {
	// text returns the text of the command.
	text() string
	// clashes reports whether the order of this act and of another one at the same key counts.
	clashes(other act) bool
}

type readAct struct{ key int }

type putAct struct{ key, value int }

type addAct struct{ key, value int }

type noneAct struct{}

func (r readAct) text() string { return "read " + strconv.Itoa(r.key) }

func (p putAct) text() string { return "put " + strconv.Itoa(p.key) + " " + strconv.Itoa(p.value) }

func (a addAct) text() string { return "add " + strconv.Itoa(a.key) + " " + strconv.Itoa(a.value) }

func (noneAct) text() string { return "none" }

func (readAct) clashes(other act) bool {
	switch other.(type) {
	case putAct, addAct:
		return true
	default:
		return false
	}
}

func (putAct) clashes(other act) bool {
	switch other.(type) {
	case readAct, putAct, addAct:
		return true
	default:
		return false
	}
}

// Sums are the same in any order, but what is read between two of them is not.
func (addAct) clashes(other act) bool {
	switch other.(type) {
	case readAct, putAct:
		return true
	default:
		return false
	}
}

func (noneAct) clashes(act) bool { return false }

// actOf returns what a command does, and true. It fails if the command is invalid.
func actOf(c Command) (act, bool) {
	keyFits := c.Key >= 0 && c.Key < KeysMany
	valueFits := c.Value >= 0 && c.Value <= ValueMax
	switch {
	case c.Kind == KindRead && keyFits && c.Value == 0:
		return readAct{c.Key}, true
	case c.Kind == KindPut && keyFits && valueFits:
		return putAct{c.Key, c.Value}, true
	case c.Kind == KindAdd && keyFits && valueFits:
		return addAct{c.Key, c.Value}, true
	case c.Kind == KindNone && c.Key == 0 && c.Value == 0:
		return noneAct{}, true
	default:
		return nil, false
	}
}

// CommandValid reports whether a command is valid.
func CommandValid(c Command) bool {
	_, ok := actOf(c)
	return ok
}

// CommandsClash reports whether the order of two commands counts.
func CommandsClash(a Command, b Command) bool {
	x, xValid := actOf(a)
	y, yValid := actOf(b)
	return xValid && yValid && a.Key == b.Key && x.clashes(y)
}

// CommandText returns a command as a text.
func CommandText(c Command) string {
	a, ok := actOf(c)
	if !ok {
		return ""
	}
	return a.text()
}

// CommandFrom returns the command of a text.
func CommandFrom(s string) (Command, bool) {
	c, ok := commandOfWords(strings.Split(s, " "))
	if !ok || !CommandValid(c) {
		return Command{}, false
	}
	return c, true
}

// commandOfWords returns the command that words name, which may still be invalid, and true. It fails if there is no such kind, or if it has another number of words.
func commandOfWords(words []string) (Command, bool) {
	switch {
	case len(words) == 2 && words[0] == "read":
		return Command{KindRead, numberFrom(words[1]), 0}, true
	case len(words) == 3 && words[0] == "put":
		return Command{KindPut, numberFrom(words[1]), numberFrom(words[2])}, true
	case len(words) == 3 && words[0] == "add":
		return Command{KindAdd, numberFrom(words[1]), numberFrom(words[2])}, true
	case len(words) == 1 && words[0] == "none":
		return Command{KindNone, 0, 0}, true
	default:
		return Command{}, false
	}
}

// numberFrom returns the number of a word, or -1 if it is not written as numbers are.
func numberFrom(word string) int {
	n, err := strconv.Atoi(word)
	// Atoi also takes signs and leading zeros, which only the way back shows.
	if err != nil || n < 0 || strconv.Itoa(n) != word {
		return -1
	}
	return n
}
