package pattern

import (
	"math/bits"
	"math/rand"
	"testing"
)

func isTrue(b *Block, at int) bool { return b[at/64]>>(at%64)&1 == 1 }

// TestRun: pattern by pattern, against one at a time.
func TestRun(t *testing.T) {
	r := rand.New(rand.NewSource(1))
	for range 50 {
		heads, gates := 1+r.Intn(8), r.Intn(40)
		values := make([]Block, heads+gates)
		for v := 1; v < heads; v++ {
			values[v] = Some(v, r.Intn(100))
		}
		var ands [][2]int
		for i := range gates {
			ands = append(ands, [2]int{r.Intn(2 * (heads + i)), r.Intn(2 * (heads + i))})
		}
		Run(values, ands)
		for at := range 1 << BlockBits {
			worth := func(l int) bool { return isTrue(&values[l/2], at) != (l%2 == 1) }
			for i, and := range ands {
				if worth(2*(heads+i)) != (worth(and[0]) && worth(and[1])) {
					t.Fatalf("gate %d at pattern %d", i, at)
				}
			}
		}
	}
}

// TestFlips: at the first pattern nothing is turned, at the first ones few variables are.
func TestFlips(t *testing.T) {
	for _, variables := range []int{0, 1, 2, 30, 1000} {
		for seed := range uint64(20) {
			flips := Flips(variables, seed)
			if len(flips) != variables {
				t.Fatalf("%d of %d", len(flips), variables)
			}
			for at := range 64 {
				turned := 0
				for _, x := range flips {
					turned += int(x >> at & 1)
				}
				if turned > 8 || turned > 1 && at < 16 || turned > 0 && at == 0 {
					t.Errorf("%d are turned at pattern %d", turned, at)
				}
			}
		}
	}
}

// TestSome: half of most words is true, and each variable and number has its own.
func TestSome(t *testing.T) {
	met := map[Block]int{}
	all := 0
	for v := range 50 {
		for number := range 50 {
			b := Some(v, number)
			met[b]++
			for k := range BlockWords - 2 {
				all += bits.OnesCount64(b[k])
			}
			if few, many := bits.OnesCount64(b[BlockWords-2]), bits.OnesCount64(b[BlockWords-1]); number%16 > 10 && (few > 8 || many < 56) {
				t.Errorf("%d and %d are true in block %d", few, many, number)
			}
		}
	}
	if len(met) != 2500 {
		t.Errorf("%d blocks", len(met))
	}
	if half := 2500 * (BlockWords - 2) * 32; all < half*99/100 || all > half*101/100 {
		t.Errorf("%d are true", all)
	}
}
