package device

import "warren/api"

// ReadPage is a page; WritePage writes one, sector by sector.
func (d *Device) ReadPage(n int) ([]byte, error) {
	if err := d.among(n, d.Pages()); err != nil {
		return nil, err
	}
	out := make([]byte, api.Page)
	for part := range api.Parts {
		b := d.at(place{n, part})
		copy(out[part*api.Sector:], b[:])
	}
	return out, nil
}

// WritePage writes a page.
func (d *Device) WritePage(n int, b []byte) error {
	if err := d.among(n, d.Pages()); err != nil {
		return err
	}
	if len(b) != api.Page {
		return api.ErrArg
	}
	for part := range api.Parts {
		s := b[part*api.Sector:][:api.Sector]
		if sector(s) == d.at(place{n, part}) {
			// To write it would be a step, and it would wait.
			continue
		}
		if err := d.Write(n*api.Parts+part, s); err != nil {
			return err
		}
	}
	return nil
}
