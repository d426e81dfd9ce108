package script_test

import (
	"math/rand"
	"strconv"

	"tollhouse/api"
	"tollhouse/ask"
	"tollhouse/caps"
	"tollhouse/script"
)

// key is that of a place's tenant in these tests.
func key(place int) []byte { return []byte("key" + strconv.Itoa(place)) }

// line is the entry of a script's line, which is right.
func line(s string) api.Entry {
	e, f := script.Line(s)
	if f != api.OK {
		panic(s)
	}
	return e
}

// says is an entry of what a tenant's admin says.
func says(place int, s string) api.Entry {
	return api.Entry{Kind: api.EntLine, Place: place, Text: s}
}

// asks is an entry of a request, by a token for all of that place and key (or, if there is no such place, of another one), of the first generation.
func asks(place, kind int, volume string, at int, data api.Block) api.Entry {
	its := max(0, min(3, place))
	tok, _ := caps.Mint(key(its), api.Claim{Place: its, Rights: 3, Until: 1 << 30, Gen: 1})
	b, e := ask.Encode(api.Ask{Kind: kind, Token: tok, Volume: volume, At: at, Data: data})
	if e != api.OK {
		panic(e)
	}
	return api.Entry{Kind: api.EntAsk, Place: place, Data: b}
}

// makes is an entry of a new tenant of that place.
func makes(place int) api.Entry {
	return api.Entry{Kind: api.EntMake, Place: place, Data: key(place)}
}

// volumes are names that the entries by lot speak of.
func volumes() []string { return []string{"a", "b", "data", "x"} }

// texts are lines that the entries by lot say; the first ones far more often.
func texts() []string {
	return []string{"make a 1", "make b 4", "make data 3", "make x 2", "gone a", "gone data", "gone b", "mint a 3 50", "mint * 1 9", "revoke", "promote 0", "promote 1", "promote 1", "force 0", "force 1", "status", "nonsense"}
}

// ownByLot is an entry of a tenant's own.
func ownByLot(lot *rand.Rand, place int) api.Entry {
	name := volumes()[lot.Intn(4)]
	switch lot.Intn(12) {
	case 0, 1:
		return api.Entry{Kind: api.EntFate, Place: place, N: lot.Intn(18) - 1}
	case 2:
		return api.Entry{Kind: api.EntFuse, Place: place, Node: lot.Intn(2), N: lot.Intn(30) - 2}
	case 3, 4, 5:
		all := texts()
		if lot.Intn(3) > 0 {
			all = all[:4]
		}
		return says(place, all[lot.Intn(len(all))])
	case 6, 7:
		return asks(place, api.AskRead, name, lot.Intn(5), api.Block{})
	case 8:
		b := make([]byte, lot.Intn(90))
		lot.Read(b)
		return api.Entry{Kind: api.EntAsk, Place: place, Data: b}
	}
	var data api.Block
	lot.Read(data[:])
	return asks(place, api.AskWrite, name, lot.Intn(4), data)
}

// keepByLot tells which loose writes survive.
func keepByLot(lot *rand.Rand) []byte {
	keep := make([]byte, lot.Intn(5))
	lot.Read(keep)
	return keep
}

// sharedByLot is an entry of all tenants'.
func sharedByLot(lot *rand.Rand) api.Entry {
	switch lot.Intn(40) {
	case 0:
		return api.Entry{Kind: api.EntCrash, Node: lot.Intn(2), Data: keepByLot(lot)}
	case 1, 2, 3:
		return api.Entry{Kind: api.EntBoot, Node: lot.Intn(2), Data: keepByLot(lot)}
	case 4:
		return line("cut")
	case 5, 6:
		return line("heal")
	case 7:
		return api.Entry{Kind: api.EntGone, Place: lot.Intn(5) - 1}
	case 8, 9, 10:
		return makes(lot.Intn(6) - 1)
	}
	return line("tick")
}

// scriptByLot are n entries of all kinds behind those that make the tenants.
func scriptByLot(lot *rand.Rand, n int) []api.Entry {
	var all []api.Entry
	for place := range 4 {
		all = append(all, makes(place))
	}
	for range n {
		switch lot.Intn(40) {
		case 0:
			all = append(all, ownByLot(lot, []int{-1, 4, 255}[lot.Intn(3)]))
		case 1:
			all = append(all, api.Entry{Kind: lot.Intn(30), Place: lot.Intn(4)})
		default:
			if lot.Intn(2) == 0 {
				all = append(all, sharedByLot(lot))
			} else {
				all = append(all, ownByLot(lot, lot.Intn(4)))
			}
		}
	}
	return all
}
