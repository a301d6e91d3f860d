package tests

import (
	"encoding"
	"encoding/binary"
	"fmt"
	"hash/fnv"
	"math/rand/v2"
	"regexp"
	"slices"
	"strconv"
	"strings"

	"loop.example/g00167/impl"
)

// The model sums by the library's own hash, which may be set to go on from any sum, and reads by a regular expression; it calls nothing of the program.

const modelFirstSum = 2166136261

var noteForm = regexp.MustCompile(`^[ -~]{0,80}$`)

var recordForm = regexp.MustCompile(`^([1-9][0-9]?) ([0-9a-f]{8}) ([ -~]{0,80})\n$`)

func modelSum(before uint32, s string) uint32 {
	h := fnv.New32a()
	state := binary.BigEndian.AppendUint32([]byte("fnv\x02"), before)
	if err := h.(encoding.BinaryUnmarshaler).UnmarshalBinary(state); err != nil {
		panic(err)
	}
	h.Write([]byte(s))
	return h.Sum32()
}

func modelIsLog(l []impl.Record) bool {
	return len(l) <= 60 && !slices.ContainsFunc(l, func(r impl.Record) bool { return !noteForm.MatchString(r.Note) })
}

// sumAhead tells the sum that the record at a place goes on from.
func sumAhead(l []impl.Record, place int) uint32 {
	if place == 0 {
		return modelFirstSum
	}
	return l[place-1].Sum
}

// modelBroken tells all places that are broken, each asked by itself, from behind.
func modelBroken(l []impl.Record) []int {
	var places []int
	for i := len(l) - 1; i >= 0; i-- {
		if l[i].Number != i+1 || l[i].Sum != modelSum(sumAhead(l, i), fmt.Sprintf("%d %s", l[i].Number, l[i].Note)) {
			places = append([]int{i}, places...)
		}
	}
	return places
}

func modelFirstBroken(l []impl.Record) (int, bool) {
	if !modelIsLog(l) {
		return 0, false
	}
	if places := modelBroken(l); len(places) > 0 {
		return places[0], true
	}
	return 0, false
}

func modelGoodLog(l []impl.Record) bool {
	_, broken := modelFirstBroken(l)
	return modelIsLog(l) && !broken
}

// logOf tells the log of these notes, also one that is too long, or of notes that are none.
func logOf(notes ...string) []impl.Record {
	var l []impl.Record
	for i, note := range notes {
		l = append(l, impl.Record{Number: i + 1, Note: note, Sum: modelSum(sumAhead(l, i), fmt.Sprintf("%d %s", i+1, note))})
	}
	return l
}

func notesOf(l []impl.Record) []string {
	var notes []string
	for _, r := range l {
		notes = append(notes, r.Note)
	}
	return notes
}

func modelAppend(l []impl.Record, note string) ([]impl.Record, bool) {
	if !modelGoodLog(l) || !noteForm.MatchString(note) || len(l) >= 60 {
		return nil, false
	}
	return logOf(append(notesOf(l), note)...), true
}

// modelLines tells the text of any records.
func modelLines(l []impl.Record) string {
	var text strings.Builder
	for _, r := range l {
		fmt.Fprintf(&text, "%d %08x %s\n", r.Number, r.Sum, r.Note)
	}
	return text.String()
}

func modelLogText(l []impl.Record) (string, bool) {
	if !modelGoodLog(l) {
		return "", false
	}
	return modelLines(l), true
}

func modelReadLog(s string) ([]impl.Record, bool) {
	var l []impl.Record
	for _, line := range strings.SplitAfter(s, "\n") {
		if line == "" {
			continue // what SplitAfter tells behind the last byte 10
		}
		m := recordForm.FindStringSubmatch(line)
		if m == nil {
			return nil, false
		}
		number, _ := strconv.Atoi(m[1])
		sum, _ := strconv.ParseUint(m[2], 16, 32)
		l = append(l, impl.Record{Number: number, Note: m[3], Sum: uint32(sum)})
	}
	if !modelGoodLog(l) {
		return nil, false
	}
	return l, true
}

// numbered tells n notes of which no two are alike.
func numbered(n int) []string {
	var notes []string
	for i := range n {
		notes = append(notes, fmt.Sprintf("note %d of it", i))
	}
	return notes
}

// everyPlain tells all plain bytes.
func everyPlain() string {
	var text []byte
	for b := byte(32); b <= 126; b++ {
		text = append(text, b)
	}
	return string(text)
}

func randomNote(rnd *rand.Rand) string {
	n := rnd.IntN(12)
	switch rnd.IntN(8) {
	case 0:
		n = 80 - rnd.IntN(3)
	case 1:
		return ""
	}
	note := make([]byte, n)
	for i := range note {
		note[i] = byte(32 + rnd.IntN(95))
	}
	return string(note)
}

func randomNotes(rnd *rand.Rand, n int) []string {
	var notes []string
	for range n {
		notes = append(notes, randomNote(rnd))
	}
	return notes
}
