package board

import (
	"nightwatch/api"
	"nightwatch/due"
)

// clock counts the cycles that timer and watch have had, and keeps when they are due.
type clock struct {
	now int64
	due due.Queue[part]
}

// Who has the first turn if both are due in one cycle.
const (
	timerTurn = iota
	watchTurn
)

// The timer's places.
const (
	periodAt = iota
	countAt
	flagAt
)

// timer sets its flag again and again, behind as many cycles as its period says.
type timer struct {
	clock  *clock
	period byte
	next   int64 // when the flag comes, if the period is not 0
	flag   bool
}

func (t *timer) boot() { t.start(0) }

// start takes a period; 0 stops the timer.
func (t *timer) start(period byte) {
	t.period = period
	t.flag = false
	t.clock.due.Drop(t)
	if period != 0 {
		t.wind()
	}
}

func (t *timer) wind() {
	t.next = t.clock.now + int64(t.period)
	t.clock.due.Put(t, t.next, timerTurn)
}

// ring is for when the timer is due.
func (t *timer) ring() {
	t.flag = true
	t.wind()
}

func (t *timer) count() byte {
	if t.period == 0 {
		return 0
	}
	return byte(t.next - t.clock.now)
}

func (t *timer) read(place byte) byte {
	switch place {
	case periodAt:
		return t.period
	case countAt:
		return t.count()
	}
	if t.flag {
		return 1
	}
	return 0
}

func (t *timer) write(place byte, value byte) {
	switch place {
	case periodAt:
		t.start(value)
	case flagAt:
		t.flag = false
	}
}

// The watch's places.
const (
	ageAt = iota
	windowAt
)

// The watch's keys.
const (
	firstKey  = 0x96
	secondKey = 0x69
)

// watch bites if it is not fed in time.
type watch struct {
	clock  *clock
	fed    int64 // when its age was 0
	window byte
	taken  bool // a window was, since the boot
	key    bool
	early  bool // it was fed too early
}

func (w *watch) boot() {
	*w = watch{clock: w.clock}
	w.feed()
}

func (w *watch) feed() {
	w.fed = w.clock.now
	w.clock.due.Put(w, w.fed+api.Late+1, watchTurn)
}

func (w *watch) age() int { return int(w.clock.now - w.fed) }

func (w *watch) read(place byte) byte {
	if place == windowAt {
		return w.window
	}
	return byte(w.age())
}

func (w *watch) write(place byte, value byte) {
	if place == windowAt {
		w.takeWindow(value)
		return
	}
	w.takeKey(value)
}

func (w *watch) takeWindow(value byte) {
	if !w.taken && value <= api.MaxWindow {
		w.window = value
		w.taken = true
	}
}

func (w *watch) takeKey(value byte) {
	if w.key && value == secondKey {
		w.offer()
	}
	w.key = value == firstKey
}

// offer feeds the watch, unless that is too early.
func (w *watch) offer() {
	if w.age() < int(w.window) {
		w.early = true
		return
	}
	w.feed()
}
