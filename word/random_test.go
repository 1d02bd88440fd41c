package word

import (
	"math/rand"
	"reflect"
	"testing"

	"gatewright/api"
	"gatewright/elab"
	"gatewright/parse"
	"gatewright/sim"
)

// design makes a random design; now and then an index in its text is known ahead, and there is no such bit.
func (m *maker) design(t *testing.T) (api.Design, bool) {
	t.Helper()
	text := m.make()
	ms, err := parse.Text(text)
	if err != nil {
		t.Fatal(err, text)
	}
	d, err := elab.Design(ms, "m")
	code, at := api.Code(err)
	if code != 0 && code != api.FRange && code != api.FWidth {
		t.Fatalf("fault %d at %d: %s", code, at, text)
	}
	return d, code == 0
}

// TestRandom: what a text means, its netlist shows.
func TestRandom(t *testing.T) {
	m := &maker{Rand: rand.New(rand.NewSource(7))}
	shown, regroupings := 0, 0
	for range 2500 {
		d, ok := m.design(t)
		if !ok {
			continue
		}
		n, err := Lower(d)
		if err != nil || !Valid(n) {
			t.Fatalf("%v: %+v\n%s", err, n, m.text.String())
		}
		shown++
		frugal := lowered(&d, true)
		other := doubled(&n)
		anew := regrouped(&d, true)
		grouped := lowered(&anew, true)
		if len(anew.Nets) > len(d.Nets) {
			regroupings++
		}
		for range 2 {
			trace, order := m.trace(), m.order()
			want, err := sim.Run(d, trace, order)
			if err != nil {
				t.Fatal(err, m.text.String())
			}
			if got := Run(n, trace); !reflect.DeepEqual(got, want) {
				t.Fatalf("%v, want %v: trace %v\n%s", got, want, trace, m.text.String())
			}
			if got := Run(frugal, trace); !reflect.DeepEqual(got, want) {
				t.Fatalf("frugally %v, want %v: trace %v\n%s", got, want, trace, m.text.String())
			}
			if got := Run(other, trace); !reflect.DeepEqual(got, want) {
				t.Fatalf("doubled %v, want %v: trace %v\n%s", got, want, trace, m.text.String())
			}
			if got := Run(grouped, trace); !reflect.DeepEqual(got, want) {
				t.Fatalf("regrouped %v, want %v: trace %v\n%s", got, want, trace, m.text.String())
			}
		}
	}
	if shown < 2000 || regroupings < 200 {
		t.Errorf("only %d texts, %d regrouped", shown, regroupings)
	}
}
