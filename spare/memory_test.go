package spare_test

import (
	"testing"

	"colander/pack"
	"colander/spare"
)

// Logs that are left alone are sound, also where they have no lists, or nothing at all; a change of any place isn't, however late.
func TestMemoryChanged(t *testing.T) {
	for _, spoils := range []bool{false, true} {
		for place := range 3 {
			m := &spare.Memory{Spoils: spoils}
			log := spare.Log([]pack.Entry{one(), {View: 7}})
			m.Keep(log)
			m.Keep(nil)
			m.Keep([]pack.Entry{})
			switch place {
			case 1:
				log[:3][2].View++
			case 2:
				log[0].Delta.Drop = []int{6, 7}
			}
			if m.Sound() != (place == 0) {
				t.Fatalf("%d %v", place, spoils)
			}
		}
	}
}

// Two lists that share aren't sound, wherever they stand, also where it is spare room alone.
func TestMemoryShared(t *testing.T) {
	for place := range 7 {
		a, b := spare.Log([]pack.Entry{one(), one()}), spare.Log([]pack.Entry{one()})
		switch place {
		case 1:
			b = a[:1]
		case 2:
			b = a[1:]
		case 3:
			b[0].Delta.Put = a[1].Delta.Put[2:]
		case 4:
			b[0].Delta.Drop = a[0].Delta.Drop[:0]
		case 5:
			a[1].Delta.Put = a[0].Delta.Put
		case 6:
			b = a[2:2]
		}
		m := &spare.Memory{}
		m.Keep(a)
		m.Keep(b)
		if m.Sound() != (place == 0) {
			t.Fatal(place)
		}
	}
}

// What is written over at once isn't seen again.
func TestMemorySpoils(t *testing.T) {
	log := []pack.Entry{one()}
	m := &spare.Memory{Spoils: true}
	m.Keep(log)
	if log[0].Client != 77 || !m.Sound() {
		t.Fatalf("%+v", log)
	}
}
