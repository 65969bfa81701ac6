package caller

// hundredths are as many as make a whole.
const hundredths = 100

// What a call pays.
const (
	payFee = iota
	payUnits
	pays
)

// prices tell what a joined call pays, part by part.
func prices() [pays]func(service, call) int {
	return [...]func(service, call) int{payFee: service.fee, payUnits: service.units}
}

// fee returns what a call pays, however long it is joined.
func (s service) fee(call) int { return s.Fee }

// units returns what a call pays for the time for which it is joined.
func (s service) units(c call) int { return s.Rate * parts(c.seconds(), s.Unit) }

// pay returns all that a joined call pays.
func (s service) pay(c call) int {
	var coins []int
	for _, price := range prices() {
		coins = append(coins, price(s, c))
	}
	return sum(coins...)
}

// paid returns what each exchange and the house get. It is rounded call by call, because each call pays for itself.
func (s service) paid() (places []int, house int) {
	places = make([]int, len(s.Shares))
	for c := range s.joined() {
		all := s.pay(c)
		share := all * s.Shares[c.From] / hundredths
		places[c.From] += share
		house += all - share
	}
	return places[:len(places):len(places)], house
}
