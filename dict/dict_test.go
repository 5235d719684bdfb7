package dict

import (
	"math"
	"slices"
	"testing"

	"flarepath/api"
)

type row struct {
	label uint8
	kind  api.Kind
}

// chapter is the chapter's table, as it stands there; the signals' numbers are written out, in the order of the table.
func chapter() []row {
	return []row{
		{123, api.Kind{Signal: 0, Low: -100000, High: 100000, Apart: 100}},
		{124, api.Kind{Signal: 1, Low: -100000, High: 100000, Apart: 100}},
		{116, api.Kind{Signal: 2, Low: -1000, High: 200000, Apart: 100}},
		{209, api.Kind{Signal: 3, Low: -90000, High: 90000, Apart: 2000}},
	}
}

// noSignals are numbers of no signal: next to those that are, at the ends, labels, and such whose lowest 8, 16 or 32 bits
// alone would be a signal.
func noSignals() []int {
	return []int{
		-1, 4, -2, -3, -4, 5, 6, 7, 8, 100, 116, 123, 124, 209, -116, 255, 256, 257, 258, 259, -256, -253, 1 << 16, 1<<16 + 3, -1 << 16,
		math.MinInt32, math.MaxInt32, math.MinInt, math.MinInt + 1, math.MinInt + 2, math.MinInt + 3, math.MinInt + 4, math.MaxInt - 1,
		math.MaxInt,
	}
}

func checkFind(t *testing.T, label uint8, want api.Kind, wantOK bool) {
	t.Helper()
	if got, ok := Find(label); got != want || ok != wantOK {
		t.Errorf("Find(%d) = %v, %t, not %v, %t", label, got, ok, want, wantOK)
	}
}

func checkLabel(t *testing.T, signal int, want uint8, wantOK bool) {
	t.Helper()
	if got, ok := Label(signal); got != want || ok != wantOK {
		t.Errorf("Label(%d) = %d, %t, not %d, %t", signal, got, ok, want, wantOK)
	}
}

func checkOf(t *testing.T, signal int, want api.Kind, wantOK bool) {
	t.Helper()
	if got, ok := Of(signal); got != want || ok != wantOK {
		t.Errorf("Of(%d) = %v, %t, not %v, %t", signal, got, ok, want, wantOK)
	}
}

func checkLabels(t *testing.T) {
	t.Helper()
	if got := Labels(); !slices.Equal(got, []uint8{116, 123, 124, 209}) {
		t.Errorf("Labels() = %v", got)
	}
}

func checkRows(t *testing.T) {
	t.Helper()
	for _, r := range chapter() {
		checkFind(t, r.label, r.kind, true)
		checkLabel(t, r.kind.Signal, r.label, true)
		checkOf(t, r.kind.Signal, r.kind, true)
	}
}

// P7.1: the chapter's examples.
func TestExamples(t *testing.T) {
	if kind, ok := Find(116); kind.Signal != 2 || kind.High != 200000 || !ok {
		t.Errorf("Find(116) = %v, %t", kind, ok)
	}
	checkFind(t, 0, api.Kind{}, false)
	checkLabel(t, api.Drift, 209, true)
	checkLabel(t, 4, 0, false)
	checkLabels(t)
}

// P7.1: each row, by its label and by its signal, whose name is api's.
func TestRows(t *testing.T) {
	checkRows(t)
	checkLabel(t, api.Loc, 123, true)
	checkLabel(t, api.Glide, 124, true)
	checkLabel(t, api.Height, 116, true)
	checkLabel(t, api.Drift, 209, true)
}

// P7.1: all 256 labels: four of them stand for something, of the others there is nothing.
func TestAllLabels(t *testing.T) {
	for n := range 256 {
		want, is := api.Kind{}, false
		for _, r := range chapter() {
			if int(r.label) == n {
				want, is = r.kind, true
			}
		}
		checkFind(t, uint8(n), want, is)
	}
}

// P7.1: of a number that is no signal there is no label, and nothing that it stands for.
func TestNoSignals(t *testing.T) {
	for _, signal := range noSignals() {
		checkLabel(t, signal, 0, false)
		checkOf(t, signal, api.Kind{}, false)
	}
	for signal := -1000; signal <= 1000; signal++ {
		if signal >= 0 && signal < api.Signals {
			continue
		}
		checkLabel(t, signal, 0, false)
		checkOf(t, signal, api.Kind{}, false)
	}
}

// P7.1: the same is answered again and again: the order of a map would show up among so many.
func TestAgain(t *testing.T) {
	for range 1000 {
		checkLabels(t)
		checkRows(t)
	}
}

// P7.1: labels are told anew: what a caller does to those that it was told, the room behind their end too, nobody else sees.
func TestLabelsAreNew(t *testing.T) {
	kept := Labels()
	for _, other := range []uint8{0, 1, 116, 209, 255} {
		told := Labels()
		told = told[:cap(told)]
		for i := range told {
			told[i] = other
		}
		checkLabels(t)
		checkRows(t)
	}
	slices.Reverse(Labels())
	checkLabels(t)
	_ = append(Labels()[:0], 209, 124, 123, 116, 5)
	checkLabels(t)
	if !slices.Equal(kept, []uint8{116, 123, 124, 209}) {
		t.Errorf("labels told before became %v", kept)
	}
}

// P7.1: a kind that was told is a value: what is done to it, nobody else sees.
func TestKindsAreNew(t *testing.T) {
	for _, r := range chapter() {
		found, _ := Find(r.label)
		of, _ := Of(r.kind.Signal)
		found.Signal, found.Low, of.High, of.Apart = 9, 9, 9, 9
		if found == r.kind || of == r.kind {
			t.Errorf("label %d: the change is not there", r.label)
		}
		checkRows(t)
	}
}

// P7.2: each signal has one label, no two the same one, and that label stands for it.
func TestSignalsHaveLabels(t *testing.T) {
	var of [256]int
	for signal := range api.Signals {
		label, ok := Label(signal)
		if !ok {
			t.Fatalf("Label(%d): none", signal)
		}
		of[label]++
		kind, ok := Find(label)
		if !ok || kind.Signal != signal {
			t.Errorf("Find(Label(%d)) = %v, %t", signal, kind, ok)
		}
		checkOf(t, signal, kind, true)
	}
	for label, count := range of {
		if count > 1 {
			t.Errorf("label %d is that of %d signals", label, count)
		}
	}
}

// P7.2: each label has one signal, no two the same one, and that signal's label is it; Labels tells all that stand for something.
func TestLabelsHaveSignals(t *testing.T) {
	var of [api.Signals]int
	var found []uint8
	for n := range 256 {
		label := uint8(n)
		kind, ok := Find(label)
		if !ok {
			continue
		}
		found = append(found, label)
		if kind.Signal < 0 || kind.Signal >= api.Signals {
			t.Fatalf("Find(%d) = %v", label, kind)
		}
		of[kind.Signal]++
		checkLabel(t, kind.Signal, label, true)
	}
	for signal, count := range of {
		if count != 1 {
			t.Errorf("signal %d has %d labels", signal, count)
		}
	}
	if got := Labels(); !slices.Equal(got, found) {
		t.Errorf("Labels() = %v, but Find finds %v", got, found)
	}
}
